package tests

import (
	"math/big"
	"math/rand"
	"slices"
	"testing"

	"loop.example/g01208/impl"
)

// number returns a whole number as one of any size and fineness.
func number(n int) *big.Rat {
	return big.NewRat(int64(n), 1)
}

// plus, minus, product and over are what they say, in new memory.
func plus(a *big.Rat, b *big.Rat) *big.Rat  { return new(big.Rat).Add(a, b) }
func minus(a *big.Rat, b *big.Rat) *big.Rat { return new(big.Rat).Sub(a, b) }
func product(a *big.Rat, k int) *big.Rat    { return new(big.Rat).Mul(a, number(k)) }
func over(a *big.Rat, k int) *big.Rat       { return new(big.Rat).Quo(a, number(k)) }

// waterIn returns how much water tanks have together.
func waterIn(tanks []tank) int {
	sum := 0
	for _, t := range tanks {
		sum += t.Water
	}
	return sum
}

// filledTo is a second way to the common level: an amount of water rises from floor to floor, over a greater area behind each one.
func filledTo(tanks []tank, amount *big.Rat) *big.Rat {
	sorted := slices.Clone(tanks)
	slices.SortFunc(sorted, func(a tank, b tank) int { return a.Floor - b.Floor })
	level, area, left := number(sorted[0].Floor), 0, amount
	for i, t := range sorted {
		area += t.Area
		rise := over(left, area)
		if i+1 < len(sorted) {
			step := minus(number(sorted[i+1].Floor), level)
			if step.Cmp(rise) < 0 {
				rise = step
			}
		}
		level = plus(level, rise)
		left = minus(left, product(rise, area))
	}
	return level
}

// heldAt returns how much water a tank has at a level.
func heldAt(t tank, level *big.Rat) *big.Rat {
	height := minus(level, number(t.Floor))
	if height.Sign() < 0 {
		return number(0)
	}
	return product(height, t.Area)
}

// isExactly reports whether a ratio is in lowest terms, and a number.
func isExactly(r ratio, x *big.Rat) bool {
	return isLowest(r) && rat(r).Cmp(x) == 0
}

// eachTanks calls f with all tanks of so many areas, floors and amounts of at most these.
func eachTanks(count int, area int, floor int, water int, f func(tanks []tank)) {
	var lows, highs []int
	for range count {
		lows = append(lows, 1, 0, 0)
		highs = append(highs, area, floor, water)
	}
	eachList(lows, highs, func(list []int) {
		tanks := make([]tank, count)
		for i := range tanks {
			tanks[i] = tankWith(list[3*i], list[3*i+1], list[3*i+2])
		}
		f(tanks)
	})
}

// someTank returns a tank that is drawn, with small or great numbers; many are dry.
func someTank(r *rand.Rand) tank {
	t := tankWith(1+r.Intn([]int{3, 50}[r.Intn(2)]), r.Intn([]int{3, 12, 101}[r.Intn(3)]), r.Intn([]int{5, 100, impl.MaxWater + 1}[r.Intn(3)]))
	if r.Intn(3) == 0 {
		t.Water = 0
	}
	return t
}

// someTanks returns tanks that are drawn.
func someTanks(r *rand.Rand) []tank {
	tanks := make([]tank, 1+r.Intn(impl.MaxTanks))
	for i := range tanks {
		tanks[i] = someTank(r)
	}
	return tanks
}

// eachTried calls f with all small tanks, and many that are drawn.
func eachTried(drawnOnes int, f func(tanks []tank)) {
	eachTanks(1, 3, 3, 5, f)
	eachTanks(2, 2, 3, 5, f)
	eachTanks(3, 2, 2, 2, f)
	r := drawn()
	for range drawnOnes {
		f(someTanks(r))
	}
}

// checkCommonLevel checks all functions of tanks alone by a second way.
func checkCommonLevel(t *testing.T, tanks []tank) {
	t.Helper()
	sum := number(waterIn(tanks))
	level := filledTo(tanks, sum)
	if r, ok := impl.CommonLevel(tanks); !isExactly(r, level) || !ok {
		t.Fatalf("%v: level %v, %t, want %v", tanks, r, ok, level)
	}
	after, ok := impl.WaterAfter(tanks)
	if len(after) != len(tanks) || !ok {
		t.Fatalf("%v: water %v, %t", tanks, after, ok)
	}
	var wet []int
	all, flows := number(0), number(0)
	for i, tank := range tanks {
		held := heldAt(tank, level)
		if held.Sign() > 0 {
			wet = append(wet, i)
		}
		flow, ok := impl.FlowInto(tanks, i)
		if !isExactly(after[i], held) || !isExactly(flow, minus(held, number(tank.Water))) || !ok {
			t.Fatalf("%v: tank %d has %v, and %v, %t flow in, want %v", tanks, i, after[i], flow, ok, held)
		}
		all, flows = plus(all, rat(after[i])), plus(flows, rat(flow))
	}
	if all.Cmp(sum) != 0 || flows.Sign() != 0 {
		t.Fatalf("%v: %v, and %v in all flow in: water is not kept", tanks, after, flows)
	}
	if list, ok := impl.WetTanks(tanks); !same(list, wet) || !ok {
		t.Fatalf("%v: wet %v, %t, want %v", tanks, list, ok, wet)
	}
}

func TestCommonLevelsAgree(t *testing.T) {
	eachTried(20000, func(tanks []tank) { checkCommonLevel(t, tanks) })
}

func TestLevelsOfTanksAgree(t *testing.T) {
	for area := 1; area <= 50; area++ {
		for _, floor := range []int{0, 1, 37, 100} {
			for _, water := range []int{0, 1, 2, 6, 50, 60, 1225, 9999, 10000} {
				tank := tankWith(area, floor, water)
				want := plus(number(floor), over(number(water), area))
				if r, ok := impl.LevelOf(tank); !isExactly(r, want) || !ok {
					t.Fatalf("%v: level %v, %t, want %v", tank, r, ok, want)
				}
				if r, ok := impl.CommonLevel([]impl.Tank{tank}); !isExactly(r, want) || !ok {
					t.Fatalf("%v: level %v, %t of it alone, want %v", tank, r, ok, want)
				}
			}
		}
	}
}

// checkWaterAt checks what tanks hold up to a level and what they need for it by a second way.
func checkWaterAt(t *testing.T, tanks []tank, level ratio) {
	t.Helper()
	below, lowest := number(0), tanks[0].Floor
	for _, tank := range tanks {
		below = plus(below, heldAt(tank, rat(level)))
		lowest = min(lowest, tank.Floor)
	}
	if r, ok := impl.WaterBelow(tanks, level); !isExactly(r, below) || !ok {
		t.Fatalf("%v: %v, %t below %v, want %v", tanks, r, ok, level, below)
	}
	r, ok := impl.WaterForLevel(tanks, level)
	if rat(level).Cmp(number(lowest)) < 0 {
		checkFails(t, "WaterForLevel", r, ok)
		return
	}
	then := plus(number(waterIn(tanks)), rat(r))
	if !isLowest(r) || !ok || then.Cmp(below) != 0 || filledTo(tanks, then).Cmp(rat(level)) != 0 {
		t.Fatalf("%v: %v, %t for %v, but %v is there then", tanks, r, ok, level, then)
	}
}

func TestWaterOfLevelsAgrees(t *testing.T) {
	r := drawn()
	eachTried(3000, func(tanks []tank) {
		common, _ := impl.CommonLevel(tanks)
		checkWaterAt(t, tanks, common)
		if comes, ok := impl.WaterForLevel(tanks, common); comes != part(0, 1) || !ok {
			t.Fatalf("%v: %v, %t for the common level", tanks, comes, ok)
		}
		for _, tank := range tanks {
			checkWaterAt(t, tanks, part(tank.Floor, 1))
			level, _ := impl.LevelOf(tank)
			checkWaterAt(t, tanks, level)
		}
		for range 5 {
			checkWaterAt(t, tanks, exact(big.NewRat(int64(r.Intn(200000)), int64(1+r.Intn(1000)))))
		}
	})
}

// checkWaterComes checks that behind the water that is told the tanks do have a level, where the amounts are whole and there is room for them.
func checkWaterComes(t *testing.T, tanks []tank, level ratio) bool {
	t.Helper()
	comes, ok := impl.WaterForLevel(tanks, level)
	if !ok || comes.Den != 1 {
		return false
	}
	then := slices.Clone(tanks)
	for i := range then {
		then[i].Water = 0
	}
	left := waterIn(tanks) + comes.Num
	for i := range then {
		then[i].Water = min(left, impl.MaxWater)
		left -= then[i].Water
	}
	if left > 0 {
		return false
	}
	if r, ok := impl.CommonLevel(then); r != level || !ok {
		t.Fatalf("%v: %v, %t, where %v were told for %v", then, r, ok, comes, level)
	}
	return true
}

func TestWaterForLevelsGivesThem(t *testing.T) {
	r, tried := drawn(), 0
	for range 5000 {
		tanks := someTanks(r)
		if checkWaterComes(t, tanks, exact(big.NewRat(int64(r.Intn(1000)), int64(1+r.Intn(6))))) {
			tried++
		}
	}
	if tried < 500 {
		t.Errorf("only %d levels are tried", tried)
	}
}

// pipedTo is a second way through a pipe: from the greater level flows what makes both equal, or what is above the height, if this is less.
func pipedTo(a tank, b tank, height int) *big.Rat {
	levelOfA, levelOfB := plus(number(a.Floor), over(number(a.Water), a.Area)), plus(number(b.Floor), over(number(b.Water), b.Area))
	if levelOfA.Cmp(levelOfB) < 0 {
		return new(big.Rat).Neg(pipedTo(b, a, height))
	}
	above := product(minus(levelOfA, number(height)), a.Area)
	if above.Sign() <= 0 {
		return number(0)
	}
	equal := over(product(product(minus(levelOfA, levelOfB), a.Area), b.Area), a.Area+b.Area)
	if equal.Cmp(above) < 0 {
		return equal
	}
	return above
}

// checkPipe checks a pipe by a second way, and that it rests as is promised.
func checkPipe(t *testing.T, a tank, b tank, height int) {
	t.Helper()
	if height < max(a.Floor, b.Floor) {
		checkNoPipe(t, a, b, height)
		return
	}
	want := pipedTo(a, b, height)
	flow, ok := impl.FlowThrough(a, b, height)
	if !isExactly(flow, want) || !ok {
		t.Fatalf("%v and %v at %d: flow %v, %t, want %v", a, b, height, flow, ok, want)
	}
	levels, ok := impl.PipeLevels(a, b, height)
	if len(levels) != 2 || !isLowest(levels[0]) || !isLowest(levels[1]) || !ok {
		t.Fatalf("%v and %v at %d: levels %v, %t", a, b, height, levels, ok)
	}
	ofA, ofB := heldAt(a, rat(levels[0])), heldAt(b, rat(levels[1]))
	if ofA.Cmp(minus(number(a.Water), want)) != 0 || ofB.Cmp(plus(number(b.Water), want)) != 0 || rat(levels[0]).Cmp(number(a.Floor)) < 0 || rat(levels[1]).Cmp(number(b.Floor)) < 0 {
		t.Fatalf("%v and %v at %d: levels %v, but %v flow: water is not kept", a, b, height, levels, flow)
	}
	greater := levels[0]
	if rat(greater).Cmp(rat(levels[1])) < 0 {
		greater = levels[1]
	}
	still := flow.Num == 0 && rat(greater).Cmp(number(height)) <= 0
	if levels[0] != levels[1] && greater != part(height, 1) && !still {
		t.Fatalf("%v and %v at %d: levels %v do not rest", a, b, height, levels)
	}
	if back, ok := impl.FlowThrough(b, a, height); back != part(-flow.Num, flow.Den) || !ok {
		t.Fatalf("%v and %v at %d: flow %v, and %v, %t the other way", a, b, height, flow, back, ok)
	}
	if back, ok := impl.PipeLevels(b, a, height); !same(back, []ratio{levels[1], levels[0]}) || !ok {
		t.Fatalf("%v and %v at %d: levels %v, and %v, %t the other way", a, b, height, levels, back, ok)
	}
}

func TestPipesAgree(t *testing.T) {
	eachTanks(2, 3, 3, 5, func(tanks []tank) {
		for height := range 10 {
			checkPipe(t, tanks[0], tanks[1], height)
		}
	})
	r := drawn()
	for range 20000 {
		a, b := someTank(r), someTank(r)
		floor := max(a.Floor, b.Floor)
		checkPipe(t, a, b, floor)
		checkPipe(t, a, b, min(floor+r.Intn(1+r.Intn(200)), impl.MaxWater/10))
		checkPipe(t, a, b, r.Intn(1001))
	}
}

func TestPipesAtFloorsLeadToTheCommonLevel(t *testing.T) {
	r := drawn()
	for range 5000 {
		tanks := []tank{someTank(r), someTank(r)}
		common, _ := impl.CommonLevel(tanks)
		floor := max(tanks[0].Floor, tanks[1].Floor)
		if rat(common).Cmp(number(floor)) < 0 {
			continue
		}
		if levels, ok := impl.PipeLevels(tanks[0], tanks[1], floor); !same(levels, []ratio{common, common}) || !ok {
			t.Fatalf("%v at %d: %v, %t, but joined %v", tanks, floor, levels, ok, common)
		}
	}
}

// hangTogether is a second way to groups: what joins reach from each tank, whatever the order of the joins.
func hangTogether(count int, joins [][]int) [][]int {
	var groups [][]int
	seen := make([]bool, count)
	for first := range count {
		if seen[first] {
			continue
		}
		seen[first] = true
		group := []int{first}
		for i := 0; i < len(group); i++ {
			for _, join := range joins {
				for side, end := range join {
					if other := join[1-side]; end == group[i] && !seen[other] {
						seen[other] = true
						group = append(group, other)
					}
				}
			}
		}
		slices.Sort(group)
		groups = append(groups, group)
	}
	return groups
}

// checkJoined checks all functions of joins by a second way.
func checkJoined(t *testing.T, tanks []tank, joins [][]int) {
	t.Helper()
	if is, ok := impl.AreJoins(tanks, joins); !is || !ok {
		t.Fatalf("%v, %v: joins %t, %t", tanks, joins, is, ok)
	}
	want := hangTogether(len(tanks), joins)
	if groups, ok := impl.GroupsOf(tanks, joins); !same(groups, want) || !ok {
		t.Fatalf("%v, %v: groups %v, %t, want %v", tanks, joins, groups, ok, want)
	}
	levels, ok := impl.GroupLevels(tanks, joins)
	if len(levels) != len(want) || !ok {
		t.Fatalf("%v, %v: levels %v, %t", tanks, joins, levels, ok)
	}
	rest := true
	for place, group := range want {
		var members []tank
		for _, i := range group {
			members = append(members, tanks[i])
		}
		level := filledTo(members, number(waterIn(members)))
		if !isExactly(levels[place], level) {
			t.Fatalf("%v, %v: level %v of %v, want %v", tanks, joins, levels[place], group, level)
		}
		for _, tank := range members {
			rest = rest && heldAt(tank, level).Cmp(number(tank.Water)) == 0
		}
	}
	if is, ok := impl.IsAtRest(tanks, joins); is != rest || !ok {
		t.Fatalf("%v, %v: at rest %t, %t, want %t", tanks, joins, is, ok, rest)
	}
}

// someJoins returns joins that are drawn, of so many tanks.
func someJoins(r *rand.Rand, count int) [][]int {
	if count < 2 {
		return nil
	}
	joins := make([][]int, r.Intn(1+r.Intn(16)))
	for i := range joins {
		joins[i] = r.Perm(count)[:2:2]
	}
	return joins
}

func TestGroupsAgree(t *testing.T) {
	// All sets of joins of four tanks, in two orders.
	for set := range 1 << 6 {
		var joins [][]int
		for i, join := range allJoins(4) {
			if set>>i&1 == 1 {
				joins = append(joins, join)
			}
		}
		checkJoined(t, six()[:4], joins)
		slices.Reverse(joins)
		checkJoined(t, six()[:4], joins)
	}
	r := drawn()
	for range 20000 {
		tanks := someTanks(r)
		checkJoined(t, tanks, someJoins(r, len(tanks)))
	}
	eachTried(0, func(tanks []tank) { checkJoined(t, tanks, allJoins(len(tanks))) })
}

// restOf returns the tanks with the water that they have when their groups have come to rest, and false if some of it is not whole or too much.
func restOf(tanks []tank, joins [][]int) ([]tank, bool) {
	rest := slices.Clone(tanks)
	for _, group := range hangTogether(len(tanks), joins) {
		var members []tank
		for _, i := range group {
			members = append(members, tanks[i])
		}
		after, _ := impl.WaterAfter(members)
		for place, i := range group {
			if after[place].Den != 1 || after[place].Num > impl.MaxWater {
				return nil, false
			}
			rest[i].Water = after[place].Num
		}
	}
	return rest, true
}

func TestWhatHasComeToRestStays(t *testing.T) {
	r, tried := drawn(), 0
	for range 30000 {
		tanks := someTanks(r)
		joins := someJoins(r, len(tanks))
		rest, fine := restOf(tanks, joins)
		if !fine {
			continue
		}
		tried++
		if is, ok := impl.IsAtRest(rest, joins); !is || !ok {
			t.Fatalf("%v, %v: %v are not at rest, %t", tanks, joins, rest, ok)
		}
		if is, ok := impl.IsAtRest(tanks, joins); is != slices.Equal(tanks, rest) || !ok {
			t.Fatalf("%v, %v: at rest %t, %t, where %v are", tanks, joins, is, ok, rest)
		}
		before, _ := impl.GroupLevels(tanks, joins)
		if behind, ok := impl.GroupLevels(rest, joins); !same(before, behind) || !ok {
			t.Fatalf("%v, %v: levels %v, and %v, %t at rest", tanks, joins, before, behind, ok)
		}
	}
	if tried < 1000 {
		t.Errorf("only %d are tried", tried)
	}
}

func TestOneGroupHasTheCommonLevel(t *testing.T) {
	r := drawn()
	for range 3000 {
		tanks := someTanks(r)
		order := r.Perm(len(tanks))
		var chain [][]int
		for i := 1; i < len(order); i++ {
			chain = append(chain, []int{order[i], order[i-1]})
		}
		common, _ := impl.CommonLevel(tanks)
		if levels, ok := impl.GroupLevels(tanks, chain); !same(levels, []ratio{common}) || !ok {
			t.Fatalf("%v, %v: levels %v, %t, but joined %v", tanks, chain, levels, ok, common)
		}
	}
}

func TestFloodsCoverTanksInOrder(t *testing.T) {
	eachTried(5000, func(tanks []tank) {
		order, ok := impl.FloodOrder(tanks)
		sorted := slices.Sorted(slices.Values(order))
		for i := range tanks {
			if len(order) != len(tanks) || sorted[i] != i || !ok {
				t.Fatalf("%v: order %v, %t", tanks, order, ok)
			}
		}
		for place := 1; place < len(order); place++ {
			a, b := order[place-1], order[place]
			if tanks[a].Floor > tanks[b].Floor || tanks[a].Floor == tanks[b].Floor && a > b {
				t.Fatalf("%v: order %v", tanks, order)
			}
		}
		// What is wet at rest is the beginning of the order.
		wet, _ := impl.WetTanks(tanks)
		first := slices.Sorted(slices.Values(order[:len(wet)]))
		if !slices.Equal(wet, first) {
			t.Fatalf("%v: wet %v, but order %v", tanks, wet, order)
		}
	})
}

// drawnRatio returns a ratio that is drawn, with small or great numbers.
func drawnRatio(r *rand.Rand) ratio {
	num := r.Intn([]int{5, 1000, billions + 1}[r.Intn(3)])
	den := 1 + r.Intn([]int{6, 1000, million}[r.Intn(3)])
	if r.Intn(2) == 0 {
		num = -num
	}
	return exact(big.NewRat(int64(num), int64(den)))
}

func TestSumsOfRatiosAgree(t *testing.T) {
	r, sums := drawn(), 0
	check := func(a ratio, b ratio) {
		want := plus(rat(a), rat(b))
		sum, ok := impl.AddRatios(a, b)
		isNone := want.Denom().Cmp(big.NewInt(million)) > 0 || new(big.Int).Abs(want.Num()).Cmp(big.NewInt(billions)) > 0
		if isNone {
			checkFails(t, "AddRatios", sum, ok)
			return
		}
		sums++
		if !isExactly(sum, want) || !ok {
			t.Fatalf("%v and %v: %v, %t, want %v", a, b, sum, ok, want)
		}
	}
	for _, a := range someRatios {
		for _, b := range someRatios {
			check(a, b)
		}
	}
	for range 50000 {
		check(drawnRatio(r), drawnRatio(r))
	}
	if sums < 10000 {
		t.Errorf("only %d sums are ratios", sums)
	}
}
