package tests

import (
	"fmt"
	"slices"
	"strings"
	"testing"

	"loop.example/g01208/impl"
)

// Vessels that reach just MaxStates and one more, and just MaxWaterStates and one more, with tap and drain or closed.
const (
	justOpen    = "0/9,2/4,1/6,2/11"
	moreOpen    = "6/25,25/34,7/11"
	justClosed  = "4/14,0/16,3/4,0/16,16/16"
	moreClosed  = "5/9,2/14,8/8,5/11,4/4"
	justSparing = "0/1,14/14,0/9"
	moreSparing = "1/2,9/15,2/7"
)

// noAmounts are numbers that are no amounts.
var noAmounts = []int{-1, 61, least, greatest}

// texts returns the texts of moves with blanks between them.
func texts(moves []move) string {
	words := make([]string, len(moves))
	for i, m := range moves {
		words[i], _ = impl.MoveText(m)
	}
	return strings.Join(words, " ")
}

func TestExampleOfPlans(t *testing.T) {
	v := read(t, "0/3,0/5")
	const six = "t>1 1>0 0>d 1>0 t>1 1>0"
	plan, ok := impl.PlanToAmount(v, 4, false)
	if texts(plan) != six || !ok {
		t.Errorf("to 4: %v, %t", plan, ok)
	}
	if given, _, ok := impl.TakenIn(v, plan); given != 10 || !ok {
		t.Errorf("%d from the tap, %t", given, ok)
	}
	if n, ok := impl.CountStates(v, false); n != 16 || !ok {
		t.Errorf("%d states, %t", n, ok)
	}
	if plan, ok := impl.TwoVesselPlan(3, 5, 4); texts(plan) != six || !ok {
		t.Errorf("TwoVesselPlan: %v, %t", plan, ok)
	}
	if n, ok := impl.TwoVesselLength(3, 5, 4); n != 6 || !ok {
		t.Errorf("TwoVesselLength: %d, %t", n, ok)
	}
	full := read(t, "8/8,0/5,0/3")
	if plan, ok := impl.PlanToAmount(full, 4, true); texts(plan) != "0>1 1>2 2>0 1>2 0>1 1>2" || !ok {
		t.Errorf("closed to 4: %v, %t", plan, ok)
	}
}

func TestWhatIsReached(t *testing.T) {
	cases := []struct {
		before   string
		closed   bool
		states   int
		amounts  []int
		farthest string
		layers   []int
		lasting  int
	}{
		{"0/3,0/5", false, 16, []int{0, 1, 2, 3, 4, 5}, "0/3,4/5", []int{1, 2, 3, 2, 2, 2, 2, 2}, 16},
		{"0/3,0/5", true, 1, []int{0}, "0/3,0/5", []int{1}, 1},
		{"3/3,5/5", true, 1, []int{3, 5}, "3/3,5/5", []int{1}, 1},
		{"8/8,0/5,0/3", true, 16, []int{0, 1, 2, 3, 4, 5, 6, 7, 8}, "4/8,1/5,3/3", []int{1, 2, 3, 2, 2, 2, 2, 2}, 16},
		{"1/2,1/2", false, 9, []int{0, 1, 2}, "0/2,0/2", []int{1, 6, 2}, 1},
		{"1/2,1/2", true, 3, []int{0, 1, 2}, "0/2,2/2", []int{1, 2}, 1},
		{"0/4,0/6", false, 10, []int{0, 2, 4, 6}, "2/4,0/6", []int{1, 2, 3, 2, 2}, 10},
		{"0/4,0/4", false, 4, []int{0, 4}, "4/4,4/4", []int{1, 2, 1}, 4},
		{"0/60", false, 2, []int{0, 60}, "60/60", []int{1, 1}, 2},
		{"7/60", false, 3, []int{0, 7, 60}, "0/60", []int{1, 2}, 1},
		{"7/60", true, 1, []int{7}, "7/60", []int{1}, 1},
		{"2/3,4/5", true, 3, []int{1, 2, 3, 4, 5}, "1/3,5/5", []int{1, 2}, 1},
		{"0/1,0/1,0/1,0/1,0/1", false, 32, []int{0, 1}, "1/1,1/1,1/1,1/1,1/1", []int{1, 5, 10, 10, 5, 1}, 32},
		{"60/60,60/60,60/60,60/60,60/60", false, 32, []int{0, 60}, "0/60,0/60,0/60,0/60,0/60", []int{1, 5, 10, 10, 5, 1}, 32},
		{"60/60,60/60,60/60,60/60,60/60", true, 1, []int{60}, "60/60,60/60,60/60,60/60,60/60", []int{1}, 1},
	}
	for _, c := range cases {
		v := read(t, c.before)
		if n, ok := impl.CountStates(v, c.closed); n != c.states || !ok {
			t.Errorf("%s %t: %d states, %t", c.before, c.closed, n, ok)
		}
		if got, ok := impl.AmountsOf(v, c.closed); !same(got, c.amounts) || !ok {
			t.Errorf("%s %t: amounts %v, %t", c.before, c.closed, got, ok)
		}
		if got, d, ok := impl.FarthestState(v, c.closed); written(got) != c.farthest || d != len(c.layers)-1 || !ok {
			t.Errorf("%s %t: farthest %v, %d, %t", c.before, c.closed, got, d, ok)
		}
		if got, ok := impl.LayersOf(v, c.closed); !same(got, c.layers) || !ok {
			t.Errorf("%s %t: layers %v, %t", c.before, c.closed, got, ok)
		}
		if n, ok := impl.LastingStates(v, c.closed); n != c.lasting || !ok {
			t.Errorf("%s %t: %d lasting, %t", c.before, c.closed, n, ok)
		}
	}
}

func TestSumsOf(t *testing.T) {
	cases := []struct {
		before string
		want   []int
	}{
		{"0/3,0/5", []int{0, 1, 2, 3, 4, 5, 6, 7, 8}},
		{"0/4,0/6", []int{0, 2, 4, 6, 8, 10}},
		{"1/4,0/6", []int{0, 1, 2, 3, 4, 5, 6, 7, 8, 9, 10}},
		{"0/4,0/4", []int{0, 4, 8}},
		{"3/60", []int{0, 3, 60}},
		{"0/60,60/60,0/60,60/60,0/60", []int{0, 60, 120, 180, 240, 300}},
	}
	for _, c := range cases {
		if got, ok := impl.SumsOf(read(t, c.before)); !same(got, c.want) || !ok {
			t.Errorf("%s: %v, %t, want %v", c.before, got, ok, c.want)
		}
	}
}

func TestPlansBetweenVessels(t *testing.T) {
	cases := []struct {
		before, goal string
		closed       bool
		plan         string
		count        int
	}{
		{"0/3,0/5", "0/3,0/5", false, "", 1},
		{"0/3,0/5", "0/3,0/5", true, "", 1},
		{"2/3,4/5", "2/3,4/5", false, "", 1},
		{"2/3,4/5", "2/3,4/5", true, "", 1},
		{"0/3,0/5", "3/3,5/5", false, "t>0 t>1", 2},
		{"0/3,0/5", "0/3,4/5", false, "t>1 1>0 0>d 1>0 t>1 1>0 0>d", 1},
		{"2/3,4/5", "3/3,3/5", true, "1>0", 1},
		{"2/3,4/5", "0/3,0/5", false, "0>d 1>d", 2},
		{"0/1,0/1,0/1", "1/1,1/1,1/1", false, "t>0 t>1 t>2", 6},
		{"0/1,0/1,0/1,0/1,0/1", "1/1,1/1,1/1,1/1,1/1", false, "t>0 t>1 t>2 t>3 t>4", 120},
		{"8/8,0/5,0/3", "4/8,1/5,3/3", true, "0>2 2>1 0>2 2>1 1>0 2>1 0>2", 1},
		{"2/2,0/2,2/2,0/2", "0/2,2/2,0/2,2/2", true, "0>1 2>3", 4},
		{"0/2,2/2,0/2,2/2", "2/2,0/2,2/2,0/2", false, "1>0 3>2", 4},
	}
	for _, c := range cases {
		v, w := read(t, c.before), read(t, c.goal)
		if is, ok := impl.IsReached(v, w, c.closed); !is || !ok {
			t.Errorf("%s to %s: %t, %t", c.before, c.goal, is, ok)
		}
		if plan, ok := impl.PlanTo(v, w, c.closed); texts(plan) != c.plan || !ok {
			t.Errorf("%s to %s: %v, %t, want %s", c.before, c.goal, texts(plan), ok, c.plan)
		}
		if n, ok := impl.CountPlans(v, w, c.closed); n != c.count || !ok {
			t.Errorf("%s to %s: %d plans, %t, want %d", c.before, c.goal, n, ok, c.count)
		}
	}
}

func TestVesselsThatAreNotReached(t *testing.T) {
	cases := []struct {
		before, goal string
		closed       bool
	}{
		{"0/3,0/5", "1/3,1/5", false}, {"0/3,0/5", "3/3,0/5", true}, {"2/3,4/5", "3/3,4/5", true}, {"2/3,4/5", "2/3,3/5", false},
		{"0/3,5/5", "2/3,4/5", false}, {"3/7", "4/7", false}, {"3/7", "0/7", true}, {"1/2,1/2", "2/2,1/2", true},
	}
	for _, c := range cases {
		v, w := read(t, c.before), read(t, c.goal)
		if is, ok := impl.IsReached(v, w, c.closed); is || !ok {
			t.Errorf("%s to %s: %t, %t", c.before, c.goal, is, ok)
		}
		checkFails(t, "PlanTo", all(impl.PlanTo(v, w, c.closed))...)
		checkFails(t, "CountPlans", all(impl.CountPlans(v, w, c.closed))...)
	}
}

func TestSizesHaveToBeTheSame(t *testing.T) {
	v := read(t, "0/3,5/5")
	for _, s := range []string{"0/3", "5/5", "0/3,5/6", "0/4,5/5", "5/5,0/3", "0/5,3/3", "0/3,5/5,0/1", "0/6,10/10", "0/3,0/5,0/3,0/5,0/3"} {
		w := read(t, s)
		for _, closed := range []bool{false, true} {
			checkNoPlans(t, v, w, closed)
			checkNoPlans(t, w, v, closed)
		}
	}
	for _, w := range noVessels {
		checkNoPlans(t, v, w, false)
		checkNoPlans(t, w, v, true)
		checkNoPlans(t, w, w, false)
	}
}

// checkNoPlans checks that all functions of two vessels fail.
func checkNoPlans(t *testing.T, v vessels, w vessels, closed bool) {
	t.Helper()
	what := fmt.Sprintf("%v to %v, closed %t: ", v, w, closed)
	checkFails(t, what+"IsReached", all(impl.IsReached(v, w, closed))...)
	checkFails(t, what+"PlanTo", all(impl.PlanTo(v, w, closed))...)
	checkFails(t, what+"CountPlans", all(impl.CountPlans(v, w, closed))...)
}

// checkNothingSearched checks that all functions of what vessels reach fail, whatever the amount.
func checkNothingSearched(t *testing.T, v vessels, closed bool) {
	t.Helper()
	what := fmt.Sprintf("%v, closed %t: ", v, closed)
	checkFails(t, what+"CountStates", all(impl.CountStates(v, closed))...)
	checkFails(t, what+"AmountsOf", all(impl.AmountsOf(v, closed))...)
	checkFails(t, what+"FarthestState", all(impl.FarthestState(v, closed))...)
	checkFails(t, what+"LayersOf", all(impl.LayersOf(v, closed))...)
	checkFails(t, what+"LastingStates", all(impl.LastingStates(v, closed))...)
	checkNoPlans(t, v, v, closed)
	for _, amount := range append([]int{0, 1, 25, 60}, v.Held...) {
		checkFails(t, what+"PlanToAmount", all(impl.PlanToAmount(v, amount, closed))...)
	}
}

// checkNoWater checks that all functions of water fail, whatever the amount.
func checkNoWater(t *testing.T, v vessels) {
	t.Helper()
	for _, amount := range append([]int{0, 1, 25, 60}, v.Held...) {
		checkFails(t, "LeastWater", all(impl.LeastWater(v, amount))...)
		checkFails(t, "WaterPlan", all(impl.WaterPlan(v, amount))...)
	}
}

func TestVesselsAreRequiredForPlans(t *testing.T) {
	for _, v := range noVessels {
		checkNothingSearched(t, v, false)
		checkNothingSearched(t, v, true)
		checkNoWater(t, v)
		checkFails(t, "SumsOf", all(impl.SumsOf(v))...)
		checkFails(t, "DivisorOf", all(impl.DivisorOf(v))...)
	}
}

func TestJustMaxStates(t *testing.T) {
	for _, c := range []struct {
		before string
		closed bool
	}{{justOpen, false}, {justClosed, true}} {
		v := read(t, c.before)
		if n, ok := impl.CountStates(v, c.closed); n != impl.MaxStates || !ok {
			t.Errorf("%s: %d states, %t", c.before, n, ok)
		}
		layers, ok := impl.LayersOf(v, c.closed)
		sum := 0
		for _, n := range layers {
			sum += n
		}
		if sum != impl.MaxStates || !ok {
			t.Errorf("%s: layers %v, %t", c.before, layers, ok)
		}
		w, d, ok := impl.FarthestState(v, c.closed)
		if d != len(layers)-1 || !ok {
			t.Errorf("%s: farthest %v, %d, %t", c.before, w, d, ok)
		}
		plan, ok := impl.PlanTo(v, w, c.closed)
		if len(plan) != d || !ok || !same(walked(v, plan), w) {
			t.Errorf("%s: plan %v, %t", c.before, plan, ok)
		}
		if is, ok := impl.IsReached(v, w, c.closed); !is || !ok {
			t.Errorf("%s: reached %t, %t", c.before, is, ok)
		}
		if n, ok := impl.CountPlans(v, w, c.closed); n < 1 || !ok {
			t.Errorf("%s: %d plans, %t", c.before, n, ok)
		}
		if n, ok := impl.LastingStates(v, c.closed); n < 1 || n > impl.MaxStates || !ok {
			t.Errorf("%s: %d lasting, %t", c.before, n, ok)
		}
		if plan, ok := impl.PlanToAmount(v, v.Held[0], c.closed); len(plan) != 0 || !ok {
			t.Errorf("%s: plan %v, %t", c.before, plan, ok)
		}
		if amounts, ok := impl.AmountsOf(v, c.closed); !slices.Contains(amounts, v.Held[0]) || !ok {
			t.Errorf("%s: amounts %v, %t", c.before, amounts, ok)
		}
	}
	if sums, ok := impl.SumsOf(read(t, justOpen)); len(sums) != 31 || !ok {
		t.Errorf("sums %v, %t", sums, ok)
	}
}

func TestMoreThanMaxStates(t *testing.T) {
	for _, c := range []struct {
		before string
		closed bool
	}{{moreOpen, false}, {moreClosed, true}} {
		v := read(t, c.before)
		if n := len(webOf(v, c.closed).states); n != impl.MaxStates+1 {
			t.Errorf("%s: %d states", c.before, n)
		}
		checkNothingSearched(t, v, c.closed)
	}
	checkFails(t, "SumsOf", all(impl.SumsOf(read(t, moreOpen)))...)
	for _, s := range []string{"0/60,30/59,0/58", "0/60,1/60,2/60,3/60,4/60"} {
		checkNothingSearched(t, read(t, s), false)
		checkNoWater(t, read(t, s))
		checkFails(t, "SumsOf", all(impl.SumsOf(read(t, s)))...)
	}
}

func TestClosedVesselsReachLess(t *testing.T) {
	v := read(t, moreOpen)
	if n, ok := impl.CountStates(v, true); n != 69 || !ok {
		t.Errorf("%d states, %t", n, ok)
	}
	if plan, ok := impl.PlanToAmount(v, 4, true); texts(plan) != "0>1 2>1" || !ok {
		t.Errorf("%v, %t", plan, ok)
	}
}

func TestJustMaxWaterStates(t *testing.T) {
	v := read(t, justSparing)
	if n, ok := impl.CountStates(v, false); n != impl.MaxWaterStates || !ok {
		t.Errorf("%d states, %t", n, ok)
	}
	if n, ok := impl.LeastWater(v, 3); n != 0 || !ok {
		t.Errorf("%d, %t", n, ok)
	}
	if plan, ok := impl.WaterPlan(v, 3); texts(plan) != "1>0 0>d 1>0 1>2" || !ok {
		t.Errorf("%v, %t", plan, ok)
	}
	more := read(t, moreSparing)
	if n, ok := impl.CountStates(more, false); n != impl.MaxWaterStates+1 || !ok {
		t.Errorf("%d states, %t", n, ok)
	}
	checkNoWater(t, more)
}

func TestPlansToAmounts(t *testing.T) {
	cases := []struct {
		before string
		amount int
		closed bool
		plan   string
	}{
		{"0/3,0/5", 0, false, ""}, {"0/3,0/5", 0, true, ""}, {"2/3,4/5", 2, false, ""}, {"2/3,4/5", 4, true, ""}, {"60/60", 60, true, ""},
		{"3/3,5/5", 0, false, "0>d"}, {"2/3,4/5", 0, false, "0>d"}, {"1/2,1/2", 0, true, "0>1"}, {"0/60", 60, false, "t>0"},
		{"0/3,0/5", 1, false, "t>0 0>1 t>0 0>1"}, {"0/3,0/5", 2, false, "t>1 1>0"}, {"0/3,0/5", 3, false, "t>0"}, {"0/3,0/5", 5, false, "t>1"},
		{"2/3,4/5", 3, false, "t>0"}, {"2/3,4/5", 3, true, "1>0"}, {"2/3,4/5", 1, false, "0>1"},
		{"0/4,0/4", 4, false, "t>0"}, {"1/2,1/2", 2, true, "0>1"}, {"1/2,1/2", 2, false, "t>0"}, {"0/4,0/6", 2, false, "t>1 1>0"},
		{"8/8,0/5,0/3", 1, true, "0>2 2>1 0>2 2>1"}, {"8/8,0/5,0/3", 7, true, "0>2 2>1 0>2 2>1 1>0"}, {"8/8,0/5,0/3", 1, false, "t>2 2>1 t>2 2>1"},
	}
	for _, c := range cases {
		plan, ok := impl.PlanToAmount(read(t, c.before), c.amount, c.closed)
		if texts(plan) != c.plan || !ok {
			t.Errorf("%s to %d, closed %t: %s, %t, want %s", c.before, c.amount, c.closed, texts(plan), ok, c.plan)
		}
	}
}

func TestAmountsThatAreNotMeasured(t *testing.T) {
	cases := []struct {
		before string
		amount int
		closed bool
	}{
		{"0/3,0/5", 6, false}, {"0/3,0/5", 60, false}, {"0/3,0/5", 3, true}, {"0/4,0/6", 1, false}, {"0/4,0/6", 3, false}, {"0/4,0/6", 5, false},
		{"2/6,4/8", 3, false}, {"0/4,0/4", 2, false}, {"7/60", 8, false}, {"7/60", 0, true}, {"3/3,5/5", 0, true}, {"0/59", 60, false}, {"8/8,0/5,0/3", 9, true},
	}
	for _, c := range cases {
		v := read(t, c.before)
		checkFails(t, "PlanToAmount", all(impl.PlanToAmount(v, c.amount, c.closed))...)
		if !c.closed {
			checkFails(t, "LeastWater", all(impl.LeastWater(v, c.amount))...)
			checkFails(t, "WaterPlan", all(impl.WaterPlan(v, c.amount))...)
		}
	}
}

func TestAmountsAreRequired(t *testing.T) {
	for _, amount := range noAmounts {
		for _, s := range []string{"0/3,0/5", "60/60", "0/60,0/1"} {
			v := read(t, s)
			checkFails(t, "PlanToAmount", all(impl.PlanToAmount(v, amount, false))...)
			checkFails(t, "PlanToAmount", all(impl.PlanToAmount(v, amount, true))...)
			checkFails(t, "LeastWater", all(impl.LeastWater(v, amount))...)
			checkFails(t, "WaterPlan", all(impl.WaterPlan(v, amount))...)
		}
		checkFails(t, "TwoVesselPlan", all(impl.TwoVesselPlan(3, 5, amount))...)
		checkFails(t, "TwoVesselLength", all(impl.TwoVesselLength(60, 60, amount))...)
	}
}

func TestTwoVessels(t *testing.T) {
	cases := []struct {
		a, b, amount int
		plan         string
	}{
		{5, 3, 4, "t>0 0>1 1>d 0>1 t>0 0>1"}, {1, 1, 1, "t>0"}, {1, 1, 0, ""}, {60, 60, 60, "t>0"}, {60, 60, 0, ""}, {1, 60, 60, "t>1"}, {60, 1, 60, "t>0"},
		{4, 6, 2, "t>1 1>0"}, {6, 4, 2, "t>0 0>1"}, {4, 6, 4, "t>0"}, {1, 60, 2, "t>0 0>1 t>0 0>1"}, {60, 1, 59, "t>0 0>1"},
	}
	for _, c := range cases {
		plan, ok := impl.TwoVesselPlan(c.a, c.b, c.amount)
		if texts(plan) != c.plan || !ok {
			t.Errorf("%d, %d, %d: %s, %t, want %s", c.a, c.b, c.amount, texts(plan), ok, c.plan)
		}
		if n, ok := impl.TwoVesselLength(c.a, c.b, c.amount); n != len(strings.Fields(c.plan)) || !ok {
			t.Errorf("%d, %d, %d: length %d, %t", c.a, c.b, c.amount, n, ok)
		}
	}
	for _, c := range [][3]int{
		{4, 6, 3}, {4, 6, 1}, {60, 60, 1}, {60, 60, 59}, {36, 60, 13}, {3, 5, 6}, {1, 1, 2}, {59, 58, 60}, {3, 5, 60},
		{0, 5, 0}, {5, 0, 5}, {0, 0, 0}, {-1, 5, 5}, {5, -1, 5}, {61, 5, 5}, {5, 61, 5}, {61, 61, 60}, {least, greatest, 0}, {greatest, least, 1}, {greatest, 5, 5}, {5, least, 5},
	} {
		checkFails(t, fmt.Sprint("TwoVesselPlan", c), all(impl.TwoVesselPlan(c[0], c[1], c[2]))...)
		checkFails(t, fmt.Sprint("TwoVesselLength", c), all(impl.TwoVesselLength(c[0], c[1], c[2]))...)
	}
}

func TestPlansLongerThanMaxMoves(t *testing.T) {
	plan, ok := impl.TwoVesselPlan(59, 60, 30)
	if len(plan) != 116 || !ok {
		t.Errorf("%d moves, %t", len(plan), ok)
	}
	if n, ok := impl.TwoVesselLength(59, 60, 30); n != 116 || !ok {
		t.Errorf("length %d, %t", n, ok)
	}
	if w := walked(read(t, "0/59,0/60"), plan); !isMeasured(w, 30) {
		t.Errorf("%v behind it", w)
	}
}

func TestWaterIsSpared(t *testing.T) {
	cases := []struct {
		before string
		amount int
		water  int
		plan   string
	}{
		{"0/3,0/5", 4, 9, "t>0 0>1 t>0 0>1 1>d 0>1 t>0 0>1"}, {"0/3,0/5", 0, 0, ""}, {"0/3,0/5", 5, 5, "t>1"}, {"0/3,0/5", 1, 6, "t>0 0>1 t>0 0>1"},
		{"8/8,0/5,0/3", 6, 0, "0>1 1>2 2>0"}, {"8/8,0/5,0/3", 5, 0, "0>1"}, {"8/8,0/5,0/3", 8, 0, ""}, {"3/3,5/5", 0, 0, "0>d"},
		{"2/3,4/5", 3, 0, "1>0"}, {"0/60", 60, 60, "t>0"}, {"7/60", 60, 53, "t>0"}, {"1/2,1/2", 2, 0, "0>1"}, {"1/2,1/2", 0, 0, "0>d"}, {"0/4,0/4", 4, 4, "t>0"},
	}
	for _, c := range cases {
		v := read(t, c.before)
		if n, ok := impl.LeastWater(v, c.amount); n != c.water || !ok {
			t.Errorf("%s to %d: %d, %t, want %d", c.before, c.amount, n, ok, c.water)
		}
		if plan, ok := impl.WaterPlan(v, c.amount); texts(plan) != c.plan || !ok {
			t.Errorf("%s to %d: %s, %t, want %s", c.before, c.amount, texts(plan), ok, c.plan)
		}
	}
}

func TestDivisorOf(t *testing.T) {
	for s, want := range map[string]int{
		"0/3,0/5": 1, "0/4,0/6": 2, "2/4,4/6": 2, "1/4,0/6": 1, "8/8,0/5,0/3": 1, "0/60": 60, "60/60": 60, "45/60": 15, "0/60,0/60,12/60,0/60,0/60": 12,
		"10/20,15/30,0/50": 5, moreOpen: 1, "0/60,20/60,40/60": 20, "0/60,2/58,0/56,0/54": 2,
	} {
		if d, ok := impl.DivisorOf(read(t, s)); d != want || !ok {
			t.Errorf("%s: %d, %t, want %d", s, d, ok, want)
		}
	}
}

func TestMorePlansThanAnIntTells(t *testing.T) {
	v, w := read(t, "0/60,0/1,0/1"), read(t, "29/60,1/1,1/1")
	if n, ok := impl.CountPlans(v, w, false); n != 1<<59 || !ok {
		t.Errorf("%d plans, %t", n, ok)
	}
	v, w = read(t, "0/60,0/1,0/1,0/1"), read(t, "29/60,0/1,1/1,1/1")
	checkFails(t, "CountPlans", all(impl.CountPlans(v, w, false))...)
	if plan, ok := impl.PlanTo(v, w, false); len(plan) != 60 || !ok {
		t.Errorf("%v, %t", plan, ok)
	}
}
