package tests

import (
	"fmt"
	"math/big"
	"slices"
	"testing"

	"loop.example/g01208/impl"
)

// edge is a move with an amount of at least 1, what it takes from the tap, and the number of the vessels behind it.
type edge struct {
	m     move
	water int
	to    int
}

// web is a second way to what vessels reach: found in depth, with water poured unit by unit. The first state is the vessels themselves.
type web struct {
	states  []vessels
	numbers map[string]int
	edges   [][]edge
}

// cost is what a list of moves takes from the tap, and how many moves they are.
type cost struct {
	water, moves int
}

// never is the cost where there is no such list.
var never = cost{greatest, greatest}

func webOf(v vessels, closed bool) *web {
	w := &web{numbers: map[string]int{}}
	w.visit(v, closed)
	return w
}

func (w *web) visit(v vessels, closed bool) int {
	key := fmt.Sprint(v.Held)
	if number, known := w.numbers[key]; known {
		return number
	}
	number := len(w.states)
	w.numbers[key] = number
	w.states = append(w.states, v)
	w.edges = append(w.edges, nil)
	eachMove(len(v.Sizes), func(m move) {
		if closed && (m.From == tap || m.To == drain) {
			return
		}
		behind, amount := poured(v, m)
		if amount == 0 {
			return
		}
		e := edge{m: m, to: w.visit(behind, closed)}
		if m.From == tap {
			e.water = amount
		}
		w.edges[number] = append(w.edges[number], e)
	})
	return number
}

// costsTo returns the least cost from each state to one that is a goal; water counts first if it is to be spared, and not at all otherwise.
func (w *web) costsTo(goal func(v vessels) bool, spared bool) []cost {
	costs := make([]cost, len(w.states))
	for i, v := range w.states {
		costs[i] = never
		if goal(v) {
			costs[i] = cost{}
		}
	}
	for changed := true; changed; {
		changed = false
		for i := range w.states {
			for _, e := range w.edges[i] {
				if c := before(e, costs[e.to], spared); isLess(c, costs[i]) {
					costs[i], changed = c, true
				}
			}
		}
	}
	return costs
}

// before returns the cost ahead of a move if c is the cost behind it.
func before(e edge, c cost, spared bool) cost {
	if c == never {
		return never
	}
	if spared {
		c.water += e.water
	}
	c.moves++
	return c
}

func isLess(a cost, b cost) bool {
	return a.water < b.water || a.water == b.water && a.moves < b.moves
}

// firstPlan goes from the vessels along the first moves that lead on to a goal with the least cost.
func (w *web) firstPlan(costs []cost, spared bool) []move {
	var plan []move
	for i := 0; costs[i].moves > 0; {
		k := slices.IndexFunc(w.edges[i], func(e edge) bool { return before(e, costs[e.to], spared) == costs[i] })
		plan = append(plan, w.edges[i][k].m)
		i = w.edges[i][k].to
	}
	return plan
}

// distances returns how many moves each state needs.
func (w *web) distances() []int {
	far := make([]int, len(w.states))
	for i := range far {
		far[i] = greatest
	}
	far[0] = 0
	for d, changed := 0, true; changed; d++ {
		changed = false
		for i := range w.states {
			for _, e := range w.edges[i] {
				if far[i] == d && far[e.to] > d+1 {
					far[e.to], changed = d+1, true
				}
			}
		}
	}
	return far
}

// planCounts returns how many shortest lists of moves there are to each state, however many they are.
func (w *web) planCounts(far []int) []*big.Int {
	counts := make([]*big.Int, len(w.states))
	for i := range counts {
		counts[i] = new(big.Int)
	}
	counts[0].SetInt64(1)
	for d := range slices.Max(far) {
		for i := range w.states {
			for _, e := range w.edges[i] {
				if far[i] == d && far[e.to] == d+1 {
					counts[e.to].Add(counts[e.to], counts[i])
				}
			}
		}
	}
	return counts
}

func isMeasured(v vessels, amount int) bool {
	return slices.Contains(v.Held, amount)
}

// eachPlanned calls f with vessels of which all plans are looked at: all very small ones, and some greater ones.
func eachPlanned(t *testing.T, f func(v vessels)) {
	eachVessels(1, 5, f)
	eachVessels(2, 4, f)
	eachVessels(3, 2, f)
	for _, s := range []string{"0/3,0/5", "8/8,0/5,0/3", "3/7,5/9", "0/6,0/10", "2/6,0/4,6/8", "1/2,1/3,0/2,2/2", "0/1,0/1,0/1,0/1,0/1", "1/2,0/1,1/1,0/2,1/1", "4/4,1/5,0/6", "0/12,0/9", "10/10,0/7,0/3"} {
		f(read(t, s))
	}
}

func TestReachedAgree(t *testing.T) {
	eachPlanned(t, func(v vessels) {
		for _, closed := range []bool{false, true} {
			w := webOf(v, closed)
			far := w.distances()
			layers := make([]int, slices.Max(far)+1)
			var last []vessels
			for i, d := range far {
				layers[d]++
				if d == len(layers)-1 {
					last = append(last, w.states[i])
				}
			}
			first := slices.MinFunc(last, func(a, b vessels) int { return slices.Compare(a.Held, b.Held) })
			if n, ok := impl.CountStates(v, closed); n != len(far) || !ok {
				t.Fatalf("%v %t: %d states, %t, want %d", v, closed, n, ok, len(far))
			}
			if got, ok := impl.LayersOf(v, closed); !same(got, layers) || !ok {
				t.Fatalf("%v %t: layers %v, %t, want %v", v, closed, got, ok, layers)
			}
			if got, d, ok := impl.FarthestState(v, closed); !same(got, first) || d != len(layers)-1 || !ok {
				t.Fatalf("%v %t: farthest %v, %d, %t, want %v, %d", v, closed, got, d, ok, first, len(layers)-1)
			}
			lasting := 0
			for _, c := range w.costsTo(func(x vessels) bool { return same(x, v) }, false) {
				if c != never {
					lasting++
				}
			}
			if n, ok := impl.LastingStates(v, closed); n != lasting || !ok {
				t.Fatalf("%v %t: %d lasting, %t, want %d", v, closed, n, ok, lasting)
			}
		}
	})
}

// eachOfSizes calls f with all vessels of the sizes of v.
func eachOfSizes(v vessels, f func(w vessels)) {
	held := make([]int, len(v.Sizes))
	for {
		f(vessels{Sizes: slices.Clone(v.Sizes), Held: slices.Clone(held)})
		i := 0
		for i < len(held) && held[i] == v.Sizes[i] {
			held[i] = 0
			i++
		}
		if i == len(held) {
			return
		}
		held[i]++
	}
}

func TestPlansToVesselsAgree(t *testing.T) {
	eachPlanned(t, func(v vessels) {
		for _, closed := range []bool{false, true} {
			w := webOf(v, closed)
			counts := w.planCounts(w.distances())
			eachOfSizes(v, func(goal vessels) {
				number, reached := w.numbers[fmt.Sprint(goal.Held)]
				if is, ok := impl.IsReached(v, goal, closed); is != reached || !ok {
					t.Fatalf("%v %t reaches %v: %t, %t, want %t", v, closed, goal, is, ok, reached)
				}
				plan, ok := impl.PlanTo(v, goal, closed)
				n, fine := impl.CountPlans(v, goal, closed)
				if !reached {
					checkFails(t, "PlanTo", plan, ok)
					checkFails(t, "CountPlans", n, fine)
					return
				}
				want := w.firstPlan(w.costsTo(func(x vessels) bool { return same(x, goal) }, false), false)
				if !same(plan, want) || !ok {
					t.Fatalf("%v %t to %v: %v, %t, want %v", v, closed, goal, plan, ok, want)
				}
				if counts[number].Cmp(big.NewInt(int64(n))) != 0 || !fine {
					t.Fatalf("%v %t to %v: %d plans, %t, want %v", v, closed, goal, n, fine, counts[number])
				}
			})
		}
	})
}

func TestPlansToAmountsAgree(t *testing.T) {
	eachPlanned(t, func(v vessels) {
		for _, closed := range []bool{false, true} {
			w := webOf(v, closed)
			divisor, _ := impl.DivisorOf(v)
			var amounts []int
			for amount := range slices.Max(v.Sizes) + 2 {
				costs := w.costsTo(func(x vessels) bool { return isMeasured(x, amount) }, false)
				plan, ok := impl.PlanToAmount(v, amount, closed)
				if ok != (costs[0] != never) {
					t.Fatalf("%v %t to %d: %v, %t", v, closed, amount, plan, ok)
				}
				if !ok {
					checkFails(t, "PlanToAmount", plan, ok)
					continue
				}
				amounts = append(amounts, amount)
				if want := w.firstPlan(costs, false); !same(plan, want) || amount%divisor != 0 {
					t.Fatalf("%v %t to %d, divisor %d: %v, want %v", v, closed, amount, divisor, plan, want)
				}
			}
			if got, ok := impl.AmountsOf(v, closed); !same(got, amounts) || !ok {
				t.Fatalf("%v %t: amounts %v, %t, want %v", v, closed, got, ok, amounts)
			}
		}
	})
}

func TestSumsAgree(t *testing.T) {
	eachPlanned(t, func(v vessels) {
		var sums []int
		for _, w := range webOf(v, false).states {
			sum, _ := impl.SumHeld(w)
			sums = append(sums, sum)
		}
		slices.Sort(sums)
		if got, ok := impl.SumsOf(v); !same(got, slices.Compact(sums)) || !ok {
			t.Fatalf("%v: sums %v, %t, want %v", v, got, ok, slices.Compact(sums))
		}
	})
}

func TestPlansThatSpareWaterAgree(t *testing.T) {
	eachPlanned(t, func(v vessels) {
		w := webOf(v, false)
		for amount := range slices.Max(v.Sizes) + 2 {
			costs := w.costsTo(func(x vessels) bool { return isMeasured(x, amount) }, true)
			least, ok := impl.LeastWater(v, amount)
			plan, fine := impl.WaterPlan(v, amount)
			if ok != (costs[0] != never) || fine != ok {
				t.Fatalf("%v to %d: %d, %t, %v, %t", v, amount, least, ok, plan, fine)
			}
			if !ok {
				checkFails(t, "LeastWater", least, ok)
				checkFails(t, "WaterPlan", plan, fine)
				continue
			}
			if want := w.firstPlan(costs, true); least != costs[0].water || !same(plan, want) {
				t.Fatalf("%v to %d: %d with %v, want %d with %v", v, amount, least, plan, costs[0].water, want)
			}
			checkPlan(t, v, plan, amount, least)
		}
	})
}

// checkPlan checks that moves of at least 1 bring an amount, and take as much from the tap as is told.
func checkPlan(t *testing.T, v vessels, plan []move, amount int, water int) {
	t.Helper()
	given := 0
	for _, m := range plan {
		behind, poured := poured(v, m)
		if poured == 0 {
			t.Fatalf("%v of %v pours nothing", m, plan)
		}
		if m.From == tap {
			given += poured
		}
		v = behind
	}
	if !isMeasured(v, amount) || given != water {
		t.Fatalf("behind %v: %v with %d from the tap, want %d with %d", plan, v, given, amount, water)
	}
}

func TestDivisorDividesAll(t *testing.T) {
	eachPlanned(t, func(v vessels) {
		want := 1
		for d := 1; d <= impl.MaxSize; d++ {
			leaves := func(n int) bool { return n%d != 0 }
			if !slices.ContainsFunc(v.Sizes, leaves) && !slices.ContainsFunc(v.Held, leaves) {
				want = d
			}
		}
		if d, ok := impl.DivisorOf(v); d != want || !ok {
			t.Fatalf("%v: %d, %t, want %d", v, d, ok, want)
		}
		for _, closed := range []bool{false, true} {
			amounts, _ := impl.AmountsOf(v, closed)
			for _, amount := range amounts {
				if amount%want != 0 {
					t.Fatalf("%v: %d is measured, no multiple of %d", v, amount, want)
				}
			}
		}
	})
}

// pouredOver returns how many moves measure an amount if water always goes from the tap to the vessel a, from a to b and from b to the drain, or greatest.
func pouredOver(a int, b int, amount int) int {
	x, y := 0, 0
	for moves := range 4*(a+b) + 1 {
		switch {
		case x == amount || y == amount:
			return moves
		case y == b:
			y = 0
		case x == 0:
			x = a
		default:
			over := min(x, b-y)
			x, y = x-over, y+over
		}
	}
	return greatest
}

// checkTwo checks the plan of two vessels for an amount.
func checkTwo(t *testing.T, a int, b int, amount int) {
	divisor := new(big.Int).GCD(nil, nil, big.NewInt(int64(a)), big.NewInt(int64(b))).Int64()
	plan, ok := impl.TwoVesselPlan(a, b, amount)
	length, fine := impl.TwoVesselLength(a, b, amount)
	if can := amount%int(divisor) == 0 && amount <= max(a, b); ok != can || fine != can {
		t.Fatalf("%d, %d, %d: %t, %t, want %t", a, b, amount, ok, fine, can)
	}
	if !ok {
		checkFails(t, "TwoVesselPlan", plan, ok)
		checkFails(t, "TwoVesselLength", length, fine)
		return
	}
	if want := min(pouredOver(a, b, amount), pouredOver(b, a, amount)); len(plan) != want || length != want {
		t.Fatalf("%d, %d, %d: %v, %d, want %d moves", a, b, amount, plan, length, want)
	}
	v := vessels{Sizes: []int{a, b}, Held: []int{0, 0}}
	given := 0
	for k, m := range plan {
		if m.From == tap {
			_, amount := poured(walked(v, plan[:k]), m)
			given += amount
		}
	}
	checkPlan(t, v, plan, amount, given)
}

// walked returns the vessels behind moves.
func walked(v vessels, moves []move) vessels {
	for _, m := range moves {
		v, _ = poured(v, m)
	}
	return v
}

func TestTwoVesselsAgree(t *testing.T) {
	for a := 1; a <= 9; a++ {
		for b := 1; b <= 9; b++ {
			for amount := range 11 {
				checkTwo(t, a, b, amount)
			}
		}
	}
	for _, sizes := range [][2]int{{60, 60}, {59, 60}, {60, 59}, {1, 60}, {60, 1}, {36, 60}, {60, 45}, {58, 60}, {47, 53}, {31, 19}, {13, 52}} {
		for amount := range impl.MaxSize + 1 {
			checkTwo(t, sizes[0], sizes[1], amount)
		}
	}
}

func TestCountsOfPlansBeyondInt(t *testing.T) {
	v := read(t, "0/60,0/1,0/1,0/1")
	w := webOf(v, false)
	counts := w.planCounts(w.distances())
	told, untold := 0, 0
	for i, goal := range w.states {
		n, ok := impl.CountPlans(v, goal, false)
		if ok != counts[i].IsInt64() {
			t.Fatalf("%s: %d, %t, want %v", written(goal), n, ok, counts[i])
		}
		if !ok {
			checkFails(t, "CountPlans", n, ok)
			untold++
			continue
		}
		if counts[i].Cmp(big.NewInt(int64(n))) != 0 {
			t.Fatalf("%s: %d, want %v", written(goal), n, counts[i])
		}
		told++
	}
	if told == 0 || untold == 0 {
		t.Errorf("%d told, %d untold", told, untold)
	}
}
