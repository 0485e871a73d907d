package tests

import (
	"fmt"
	"slices"
	"testing"

	"loop.example/g01208/impl"
)

// The tanks of the chapter's example: the wide one holds all water at first, and the high one has the floor 3.
var (
	wide = tankWith(2, 0, 9)
	high = tankWith(1, 3, 0)
)

// million and billions are the greatest Den and the greatest Num of a ratio.
const (
	million  = 1000000
	billions = 1000000000000
)

// noTanks are no tanks: limits exceeded by one, and numbers of any size in every place.
var noTanks = []tank{
	tankWith(0, 3, 9), tankWith(-1, 3, 9), tankWith(51, 3, 9), tankWith(least, 3, 9), tankWith(greatest, 3, 9),
	tankWith(2, -1, 9), tankWith(2, 101, 9), tankWith(2, least, 9), tankWith(2, greatest, 9),
	tankWith(2, 3, -1), tankWith(2, 3, 10001), tankWith(2, 3, least), tankWith(2, 3, greatest),
	tankWith(0, 0, 0), tankWith(least, least, least), tankWith(greatest, greatest, greatest), tankWith(greatest, 3, greatest), tankWith(least, greatest, least),
}

// noRatios are no ratios: limits exceeded by one, numbers of any size, and such as are not in lowest terms.
var noRatios = []ratio{
	part(1, -1), part(1, 0), part(0, 0), part(0, -1), part(-1, -1), part(1, 1000001), part(1, least), part(1, greatest), part(1, least+1),
	part(billions+1, 1), part(-billions-1, 1), part(billions+1, million), part(-billions-1, million), part(least, 1), part(greatest, 1), part(least+1, 1), part(greatest, million), part(least, million),
	part(2, 2), part(2, 4), part(-2, 4), part(6, 9), part(0, 2), part(0, 1000), part(0, million), part(1000, 1000), part(billions, million), part(-billions, million), part(billions, 2), part(-million, million), part(3, 999999), part(-999998, 4),
	part(least, least), part(greatest, greatest), part(least, greatest), part(greatest, least), part(least, 0), part(least, 2),
}

// someRatios are ratios, of any size.
var someRatios = []ratio{
	part(0, 1), part(1, 1), part(-1, 1), part(1, 2), part(-1, 2), part(7, 3), part(-7, 1000), part(1, 1001), part(1, million), part(-1, million), part(999999, million), part(million, 1), part(million+1, 1),
	part(billions, 1), part(-billions, 1), part(billions-1, million), part(1-billions, million), part(billions, 999999), part(-billions, 999999),
}

// someLevels are ratios that may be told as levels, and noLevels such as are ratios, but too great, too fine or less than 0.
var (
	someLevels = []ratio{part(0, 1), part(1, 1), part(3, 1), part(7, 2), part(4, 1), part(9, 2), part(1, 1000), part(999, 1000), part(million, 1), part(million, 999), part(999999, 1000)}
	noLevels   = []ratio{part(1, 1001), part(1000, 1001), part(1, million), part(7, million), part(million+1, 1), part(million+1, 1000), part(billions, 1), part(billions, 999), part(-1, 1), part(-1, 1000), part(-7, 2), part(-million, 1), part(-million-1, 1), part(-billions, 1)}
)

// tankLists returns tanks of all counts.
func tankLists() [][]tank {
	return [][]tank{
		{wide, high}, {wide}, {high}, {tankWith(1, 0, 0)}, {tankWith(50, 100, 10000)}, {tankWith(1, 100, 10000), tankWith(50, 0, 0)},
		{tankWith(2, 5, 0), tankWith(1, 3, 0), tankWith(4, 9, 0)}, slices.Repeat([]tank{tankWith(3, 2, 4)}, 4), stairs(15), slices.Repeat([]tank{tankWith(50, 100, 10000)}, 6), slices.Repeat([]tank{tankWith(1, 0, 0)}, 6),
	}
}

// noTankLists returns lists that are no tanks: too short, too long, and with what is no tank in any place.
func noTankLists() [][]tank {
	lists := [][]tank{nil, {}, slices.Repeat([]tank{wide}, 7), slices.Repeat([]tank{tankWith(1, 0, 0)}, 7), slices.Repeat([]tank{tankWith(50, 100, 10000)}, 100)}
	for _, t := range noTanks {
		lists = append(lists, []tank{t}, slices.Repeat([]tank{t}, 6), []tank{t, wide, high}, []tank{wide, t, high}, []tank{wide, high, t}, append(slices.Repeat([]tank{high}, 5), t))
	}
	return lists
}

// stairs returns six tanks of the area 1 with the floors 0 to 5; the last one has all water.
func stairs(water int) []tank {
	var tanks []tank
	for floor := range 6 {
		tanks = append(tanks, tankWith(1, floor, 0))
	}
	tanks[5].Water = water
	return tanks
}

// wholes returns numbers as ratios.
func wholes(numbers ...int) []ratio {
	list := make([]ratio, len(numbers))
	for i, n := range numbers {
		list[i] = part(n, 1)
	}
	return list
}

func TestExampleOfLevels(t *testing.T) {
	tanks := []tank{wide, high}
	if r, ok := impl.CommonLevel(tanks); r != part(4, 1) || !ok {
		t.Errorf("common level %v, %t", r, ok)
	}
	if list, ok := impl.WaterAfter(tanks); !same(list, wholes(8, 1)) || !ok {
		t.Errorf("water %v, %t", list, ok)
	}
	if r, ok := impl.LevelOf(wide); r != part(9, 2) || !ok {
		t.Errorf("level of the first tank %v, %t", r, ok)
	}
	if r, ok := impl.FlowThrough(wide, high, 4); r != part(1, 1) || !ok {
		t.Errorf("flow %v, %t", r, ok)
	}
	if list, ok := impl.PipeLevels(wide, high, 4); !same(list, wholes(4, 4)) || !ok {
		t.Errorf("levels %v, %t", list, ok)
	}
	less := []tank{tankWith(2, 0, 6), high}
	if r, ok := impl.CommonLevel(less); r != part(3, 1) || !ok {
		t.Errorf("common level %v, %t", r, ok)
	}
	if list, ok := impl.WaterAfter(less); !same(list, wholes(6, 0)) || !ok {
		t.Errorf("water %v, %t", list, ok)
	}
	if list, ok := impl.WetTanks(less); !same(list, []int{0}) || !ok {
		t.Errorf("wet %v, %t", list, ok)
	}
}

func TestIsTank(t *testing.T) {
	for _, area := range []int{1, 2, 49, 50} {
		for _, floor := range []int{0, 1, 99, 100} {
			for _, water := range []int{0, 1, 9999, impl.MaxWater} {
				tank := tankWith(area, floor, water)
				if !impl.IsTank(tank) {
					t.Errorf("%v: no tank", tank)
				}
				for count := 1; count <= impl.MaxTanks; count++ {
					if !impl.AreTanks(slices.Repeat([]impl.Tank{tank}, count)) {
						t.Errorf("%d times %v: no tanks", count, tank)
					}
				}
				if impl.AreTanks(slices.Repeat([]impl.Tank{tank}, impl.MaxTanks+1)) {
					t.Errorf("%v: seven tanks", tank)
				}
			}
		}
	}
	for _, tank := range noTanks {
		if impl.IsTank(tank) {
			t.Errorf("%v: a tank", tank)
		}
		checkFails(t, fmt.Sprint(tank, ": LevelOf"), all(impl.LevelOf(tank))...)
	}
	for _, tanks := range tankLists() {
		if !impl.AreTanks(tanks) {
			t.Errorf("%v: no tanks", tanks)
		}
	}
	for _, tanks := range noTankLists() {
		if impl.AreTanks(tanks) {
			t.Errorf("%v: tanks", tanks)
		}
	}
}

func TestLevelOf(t *testing.T) {
	for _, c := range []struct {
		tank tank
		want ratio
	}{
		{wide, part(9, 2)}, {high, part(3, 1)}, {tankWith(1, 0, 0), part(0, 1)}, {tankWith(50, 0, 0), part(0, 1)}, {tankWith(50, 100, 0), part(100, 1)}, {tankWith(6, 1, 4), part(5, 3)}, {tankWith(6, 1, 12), part(3, 1)}, {tankWith(49, 0, 1), part(1, 49)}, {tankWith(50, 100, 9999), part(14999, 50)},
		{tankWith(1, 100, 10000), part(10100, 1)}, {tankWith(50, 100, 10000), part(300, 1)}, {tankWith(7, 0, 10000), part(10000, 7)}, {tankWith(48, 99, 9998), part(7375, 24)},
	} {
		if r, ok := impl.LevelOf(c.tank); r != c.want || !ok {
			t.Errorf("%v: %v, %t, want %v", c.tank, r, ok, c.want)
		}
	}
}

// levelCase is tanks with their common level, the water that each one has then, and those that have some.
type levelCase struct {
	tanks []tank
	level ratio
	after []ratio
	wet   []int
}

var levelCases = []levelCase{
	{[]tank{wide, high}, part(4, 1), wholes(8, 1), []int{0, 1}}, {[]tank{high, wide}, part(4, 1), wholes(1, 8), []int{0, 1}}, {[]tank{tankWith(2, 0, 6), high}, part(3, 1), wholes(6, 0), []int{0}}, {[]tank{tankWith(2, 0, 7), high}, part(10, 3), []ratio{part(20, 3), part(1, 3)}, []int{0, 1}},
	// A single tank.
	{[]tank{wide}, part(9, 2), wholes(9), []int{0}}, {[]tank{tankWith(3, 2, 4)}, part(10, 3), wholes(4), []int{0}}, {[]tank{tankWith(50, 100, 10000)}, part(300, 1), wholes(10000), []int{0}}, {[]tank{tankWith(1, 100, 10000)}, part(10100, 1), wholes(10000), []int{0}}, {[]tank{tankWith(50, 0, 1)}, part(1, 50), wholes(1), []int{0}},
	// All tanks are dry.
	{[]tank{tankWith(1, 0, 0)}, part(0, 1), wholes(0), nil}, {[]tank{high}, part(3, 1), wholes(0), nil}, {[]tank{tankWith(2, 5, 0), tankWith(1, 3, 0), tankWith(4, 9, 0)}, part(3, 1), wholes(0, 0, 0), nil}, {[]tank{tankWith(2, 5, 0), tankWith(1, 5, 0)}, part(5, 1), wholes(0, 0), nil},
	{[]tank{tankWith(50, 100, 0), tankWith(50, 100, 0)}, part(100, 1), wholes(0, 0), nil}, {slices.Repeat([]tank{tankWith(7, 100, 0)}, 6), part(100, 1), wholes(0, 0, 0, 0, 0, 0), nil}, {[]tank{tankWith(1, 100, 0), tankWith(50, 99, 0)}, part(99, 1), wholes(0, 0), nil},
	// Dry tanks below the common level, at it and above it.
	{[]tank{tankWith(1, 5, 10), tankWith(1, 0, 0)}, part(15, 2), []ratio{part(5, 2), part(15, 2)}, []int{0, 1}}, {[]tank{tankWith(1, 0, 4), tankWith(2, 4, 0)}, part(4, 1), wholes(4, 0), []int{0}}, {[]tank{tankWith(1, 0, 4), tankWith(2, 5, 0)}, part(4, 1), wholes(4, 0), []int{0}}, {[]tank{tankWith(1, 0, 5), tankWith(2, 4, 0)}, part(13, 3), []ratio{part(13, 3), part(2, 3)}, []int{0, 1}},
	// All that a high tank has flows down.
	{[]tank{tankWith(3, 50, 9), tankWith(1, 0, 0), tankWith(1, 10, 0)}, part(9, 1), wholes(0, 9, 0), []int{1}}, {[]tank{tankWith(3, 50, 10), tankWith(1, 0, 0), tankWith(1, 10, 0)}, part(10, 1), wholes(0, 10, 0), []int{1}}, {[]tank{tankWith(3, 50, 12), tankWith(1, 0, 0), tankWith(1, 10, 0)}, part(11, 1), wholes(0, 11, 1), []int{1, 2}},
	{[]tank{tankWith(3, 50, 90), tankWith(1, 0, 0), tankWith(1, 10, 0)}, part(50, 1), wholes(0, 50, 40), []int{1, 2}}, {[]tank{tankWith(3, 50, 91), tankWith(1, 0, 0), tankWith(1, 10, 0)}, part(251, 5), []ratio{part(3, 5), part(251, 5), part(201, 5)}, []int{0, 1, 2}}, {[]tank{tankWith(1, 100, 1), tankWith(50, 0, 0)}, part(1, 50), wholes(0, 1), []int{1}},
	// The wet tanks are not the first ones.
	{[]tank{tankWith(1, 9, 0), tankWith(2, 1, 0), tankWith(1, 9, 3), tankWith(1, 1, 0)}, part(2, 1), wholes(0, 2, 0, 1), []int{1, 3}},
	// Equal floors.
	{[]tank{tankWith(1, 2, 3), tankWith(2, 2, 0), tankWith(3, 2, 6)}, part(7, 2), []ratio{part(3, 2), part(3, 1), part(9, 2)}, []int{0, 1, 2}}, {slices.Repeat([]tank{tankWith(3, 2, 4)}, 4), part(10, 3), wholes(4, 4, 4, 4), []int{0, 1, 2, 3}}, {[]tank{tankWith(50, 0, 0), tankWith(1, 0, 1)}, part(1, 51), []ratio{part(50, 51), part(1, 51)}, []int{0, 1}},
	// The level is at the floors, one after the other, and just above.
	{stairs(0), part(0, 1), wholes(0, 0, 0, 0, 0, 0), nil}, {stairs(1), part(1, 1), wholes(1, 0, 0, 0, 0, 0), []int{0}}, {stairs(2), part(3, 2), []ratio{part(3, 2), part(1, 2), part(0, 1), part(0, 1), part(0, 1), part(0, 1)}, []int{0, 1}}, {stairs(3), part(2, 1), wholes(2, 1, 0, 0, 0, 0), []int{0, 1}}, {stairs(6), part(3, 1), wholes(3, 2, 1, 0, 0, 0), []int{0, 1, 2}}, {stairs(10), part(4, 1), wholes(4, 3, 2, 1, 0, 0), []int{0, 1, 2, 3}},
	{stairs(15), part(5, 1), wholes(5, 4, 3, 2, 1, 0), []int{0, 1, 2, 3, 4}}, {stairs(16), part(31, 6), []ratio{part(31, 6), part(25, 6), part(19, 6), part(13, 6), part(7, 6), part(1, 6)}, []int{0, 1, 2, 3, 4, 5}}, {stairs(21), part(6, 1), wholes(6, 5, 4, 3, 2, 1), []int{0, 1, 2, 3, 4, 5}}, {stairs(10000), part(10015, 6), []ratio{part(10015, 6), part(10009, 6), part(10003, 6), part(9997, 6), part(9991, 6), part(9985, 6)}, []int{0, 1, 2, 3, 4, 5}},
	// As much as there may be, and great numbers beside small ones.
	{slices.Repeat([]tank{tankWith(50, 100, 10000)}, 6), part(300, 1), wholes(10000, 10000, 10000, 10000, 10000, 10000), []int{0, 1, 2, 3, 4, 5}}, {slices.Repeat([]tank{tankWith(1, 0, 10000)}, 6), part(10000, 1), wholes(10000, 10000, 10000, 10000, 10000, 10000), []int{0, 1, 2, 3, 4, 5}}, {[]tank{tankWith(1, 0, 1), tankWith(50, 100, 10000)}, part(15001, 51), []ratio{part(15001, 51), part(495050, 51)}, []int{0, 1}},
	{[]tank{tankWith(50, 0, 1), tankWith(49, 0, 1), tankWith(48, 0, 1), tankWith(47, 0, 1), tankWith(46, 0, 1), tankWith(45, 0, 1)}, part(2, 95), []ratio{part(20, 19), part(98, 95), part(96, 95), part(94, 95), part(92, 95), part(18, 19)}, []int{0, 1, 2, 3, 4, 5}},
	{[]tank{tankWith(50, 0, 4999), tankWith(1, 100, 0)}, part(4999, 50), wholes(4999, 0), []int{0}}, {[]tank{tankWith(50, 0, 5000), tankWith(1, 100, 0)}, part(100, 1), wholes(5000, 0), []int{0}}, {[]tank{tankWith(50, 0, 5001), tankWith(1, 100, 0)}, part(5101, 51), []ratio{part(255050, 51), part(1, 51)}, []int{0, 1}},
}

func TestCommonLevels(t *testing.T) {
	for _, c := range levelCases {
		if r, ok := impl.CommonLevel(c.tanks); r != c.level || !ok {
			t.Errorf("%v: level %v, %t, want %v", c.tanks, r, ok, c.level)
		}
		if list, ok := impl.WaterAfter(c.tanks); !same(list, c.after) || !ok {
			t.Errorf("%v: water %v, %t, want %v", c.tanks, list, ok, c.after)
		}
		if list, ok := impl.WetTanks(c.tanks); !same(list, c.wet) || !ok {
			t.Errorf("%v: wet %v, %t, want %v", c.tanks, list, ok, c.wet)
		}
		for i, water := range c.after {
			if r, ok := impl.FlowInto(c.tanks, i); rat(r).Cmp(difference(water, part(c.tanks[i].Water, 1))) != 0 || !isLowest(r) || !ok {
				t.Errorf("%v: %v, %t flow into %d, where %v are", c.tanks, r, ok, i, water)
			}
		}
	}
}

func TestFlowInto(t *testing.T) {
	for _, c := range []struct {
		tanks []tank
		want  []ratio
	}{
		{[]tank{wide, high}, wholes(-1, 1)}, {[]tank{tankWith(2, 0, 6), high}, wholes(0, 0)}, {[]tank{tankWith(2, 0, 7), high}, []ratio{part(-1, 3), part(1, 3)}}, {[]tank{wide}, wholes(0)}, {[]tank{high}, wholes(0)}, {stairs(15), wholes(5, 4, 3, 2, 1, -15)}, {stairs(0), wholes(0, 0, 0, 0, 0, 0)},
		{[]tank{tankWith(3, 50, 9), tankWith(1, 0, 0), tankWith(1, 10, 0)}, wholes(-9, 9, 0)}, {[]tank{tankWith(1, 2, 3), tankWith(2, 2, 0), tankWith(3, 2, 6)}, []ratio{part(-3, 2), part(3, 1), part(-3, 2)}}, {[]tank{tankWith(1, 0, 10000), tankWith(1, 0, 0)}, wholes(-5000, 5000)}, {[]tank{tankWith(1, 100, 10000), tankWith(50, 0, 0)}, []ratio{part(-505000, 51), part(505000, 51)}},
	} {
		for i, want := range c.want {
			if r, ok := impl.FlowInto(c.tanks, i); r != want || !ok {
				t.Errorf("%v: %v, %t flow into %d, want %v", c.tanks, r, ok, i, want)
			}
		}
	}
	for _, tanks := range tankLists() {
		for _, i := range []int{-1, len(tanks), len(tanks) + 1, -len(tanks), least, greatest} {
			checkFails(t, fmt.Sprint(tanks, i, ": FlowInto"), all(impl.FlowInto(tanks, i))...)
		}
		for _, i := range []int{0, len(tanks) - 1} {
			if r, ok := impl.FlowInto(tanks, i); !isLowest(r) || !ok {
				t.Errorf("%v: %v, %t flow into %d", tanks, r, ok, i)
			}
		}
	}
}

func TestWaterOfLevels(t *testing.T) {
	const none = greatest
	pair, above := []tank{wide, high}, []tank{tankWith(1, 5, 10), tankWith(3, 7, 0)}
	for _, c := range []struct {
		tanks        []tank
		level        ratio
		below, comes ratio
	}{
		// At the floors, between them, at the common level, above it, and as far as levels are told.
		{pair, part(0, 1), part(0, 1), part(-9, 1)}, {pair, part(1, 1000), part(1, 500), part(-4499, 500)}, {pair, part(1, 1), part(2, 1), part(-7, 1)}, {pair, part(5, 2), part(5, 1), part(-4, 1)}, {pair, part(8, 3), part(16, 3), part(-11, 3)}, {pair, part(2999, 1000), part(2999, 500), part(-1501, 500)},
		{pair, part(3, 1), part(6, 1), part(-3, 1)}, {pair, part(3001, 1000), part(6003, 1000), part(-2997, 1000)}, {pair, part(7, 2), part(15, 2), part(-3, 2)}, {pair, part(4, 1), part(9, 1), part(0, 1)}, {pair, part(9, 2), part(21, 2), part(3, 2)}, {pair, part(16, 3), part(13, 1), part(4, 1)}, {pair, part(16, 1), part(45, 1), part(36, 1)},
		{pair, part(million, 1), part(2999997, 1), part(2999988, 1)}, {pair, part(999999, 1000), part(2996997, 1000), part(2987997, 1000)}, {pair, part(million, 999), part(999001, 333), part(996004, 333)}, {pair, part(100, 999), part(200, 999), part(200-8991, 999)},
		// A level below all floors holds nothing and is the common one of no water; at the least floor all water has to go.
		{above, part(0, 1), part(0, 1), part(none, 1)}, {above, part(1, 1), part(0, 1), part(none, 1)}, {above, part(4, 1), part(0, 1), part(none, 1)}, {above, part(14, 3), part(0, 1), part(none, 1)}, {above, part(4999, 1000), part(0, 1), part(none, 1)}, {above, part(5, 1), part(0, 1), part(-10, 1)}, {above, part(5001, 1000), part(1, 1000), part(-9999, 1000)}, {above, part(7, 1), part(2, 1), part(-8, 1)}, {above, part(9, 1), part(10, 1), part(0, 1)}, {above, part(10, 1), part(14, 1), part(4, 1)},
		// Dry tanks have all floors above the common level but the least one.
		{[]tank{high}, part(0, 1), part(0, 1), part(none, 1)}, {[]tank{high}, part(3, 1), part(0, 1), part(0, 1)}, {[]tank{high}, part(10, 3), part(1, 3), part(1, 3)}, {stairs(0), part(0, 1), part(0, 1), part(0, 1)}, {stairs(0), part(5, 1), part(15, 1), part(15, 1)}, {stairs(16), part(31, 6), part(16, 1), part(0, 1)}, {[]tank{tankWith(1, 0, 0)}, part(0, 1), part(0, 1), part(0, 1)},
		{slices.Repeat([]tank{tankWith(50, 100, 10000)}, 6), part(million, 1), part(299970000, 1), part(299910000, 1)}, {slices.Repeat([]tank{tankWith(50, 100, 10000)}, 6), part(100, 1), part(0, 1), part(-60000, 1)}, {slices.Repeat([]tank{tankWith(50, 100, 10000)}, 6), part(300, 1), part(60000, 1), part(0, 1)}, {slices.Repeat([]tank{tankWith(50, 100, 10000)}, 6), part(99, 1), part(0, 1), part(none, 1)},
	} {
		if r, ok := impl.WaterBelow(c.tanks, c.level); r != c.below || !ok {
			t.Errorf("%v: %v, %t below %v, want %v", c.tanks, r, ok, c.level, c.below)
		}
		r, ok := impl.WaterForLevel(c.tanks, c.level)
		if c.comes.Num == none {
			checkFails(t, fmt.Sprint(c.tanks, c.level, ": WaterForLevel"), r, ok)
		} else if r != c.comes || !ok {
			t.Errorf("%v: %v, %t for %v, want %v", c.tanks, r, ok, c.level, c.comes)
		}
	}
}

func TestRatiosThatAreNoLevels(t *testing.T) {
	for _, tanks := range append(tankLists(), nil, []tank{tankWith(0, 0, 0)}) {
		for _, level := range append(slices.Clone(noRatios), noLevels...) {
			checkFails(t, fmt.Sprint(tanks, level, ": WaterBelow"), all(impl.WaterBelow(tanks, level))...)
			checkFails(t, fmt.Sprint(tanks, level, ": WaterForLevel"), all(impl.WaterForLevel(tanks, level))...)
		}
	}
	for _, tanks := range tankLists() {
		for _, level := range someLevels {
			if r, ok := impl.WaterBelow(tanks, level); !isLowest(r) || !ok {
				t.Errorf("%v, %v: %v, %t", tanks, level, r, ok)
			}
		}
		if r, ok := impl.WaterForLevel(tanks, part(million, 999)); !isLowest(r) || !ok {
			t.Errorf("%v: %v, %t", tanks, r, ok)
		}
	}
}

// pipeCase is two tanks with a pipe at a height, what flows from the first one to the second one, and their levels then.
type pipeCase struct {
	a, b   tank
	height int
	flow   ratio
	levels []ratio
}

var pipeCases = []pipeCase{
	// The common level is at the height, above it and below it.
	{wide, high, 4, part(1, 1), wholes(4, 4)}, {wide, high, 3, part(1, 1), wholes(4, 4)}, {tankWith(2, 0, 18), high, 7, part(4, 1), wholes(7, 7)}, {tankWith(2, 0, 18), high, 8, part(2, 1), wholes(8, 5)}, {tankWith(2, 0, 18), high, 6, part(4, 1), wholes(7, 7)},
	{tankWith(1, 0, 10), tankWith(1, 0, 0), 4, part(5, 1), wholes(5, 5)}, {tankWith(1, 0, 10), tankWith(1, 0, 0), 5, part(5, 1), wholes(5, 5)}, {tankWith(1, 0, 10), tankWith(1, 0, 0), 6, part(4, 1), wholes(6, 4)}, {tankWith(1, 0, 10), tankWith(1, 0, 0), 9, part(1, 1), wholes(9, 1)}, {tankWith(1, 0, 10), tankWith(1, 0, 0), 0, part(5, 1), wholes(5, 5)},
	// Levels at the height and below it flow nowhere.
	{tankWith(2, 0, 18), high, 9, part(0, 1), wholes(9, 3)}, {tankWith(2, 0, 18), high, 10, part(0, 1), wholes(9, 3)}, {tankWith(2, 0, 18), high, 1000, part(0, 1), wholes(9, 3)}, {wide, high, 5, part(0, 1), []ratio{part(9, 2), part(3, 1)}}, {tankWith(2, 0, 6), tankWith(1, 1, 0), 4, part(0, 1), wholes(3, 1)}, {tankWith(2, 0, 6), tankWith(1, 1, 1), 3, part(0, 1), wholes(3, 2)}, {tankWith(3, 1, 10), tankWith(2, 0, 1), 5, part(0, 1), []ratio{part(13, 3), part(1, 2)}},
	// Both levels are above the height.
	{tankWith(2, 0, 18), tankWith(1, 3, 4), 5, part(4, 3), []ratio{part(25, 3), part(25, 3)}}, {tankWith(2, 0, 18), tankWith(1, 3, 4), 3, part(4, 3), []ratio{part(25, 3), part(25, 3)}}, {tankWith(2, 0, 18), tankWith(1, 3, 3), 6, part(2, 1), wholes(8, 8)}, {tankWith(2, 0, 18), tankWith(1, 3, 3), 5, part(2, 1), wholes(8, 8)},
	// Equal levels above the height, at it and below it.
	{tankWith(2, 0, 8), tankWith(1, 3, 1), 3, part(0, 1), wholes(4, 4)}, {tankWith(2, 0, 8), tankWith(1, 3, 1), 4, part(0, 1), wholes(4, 4)}, {tankWith(2, 0, 8), tankWith(1, 3, 1), 5, part(0, 1), wholes(4, 4)}, {tankWith(4, 1, 2), tankWith(2, 1, 1), 1, part(0, 1), []ratio{part(3, 2), part(3, 2)}}, {wide, wide, 2, part(0, 1), []ratio{part(9, 2), part(9, 2)}},
	// The level of a dry tank is its floor.
	{tankWith(2, 0, 0), high, 3, part(0, 1), wholes(0, 3)}, {tankWith(2, 0, 0), high, 7, part(0, 1), wholes(0, 3)}, {high, high, 3, part(0, 1), wholes(3, 3)}, {tankWith(2, 5, 0), tankWith(1, 0, 9), 5, part(-8, 3), []ratio{part(19, 3), part(19, 3)}}, {tankWith(2, 5, 0), tankWith(1, 0, 9), 7, part(-2, 1), wholes(6, 7)}, {tankWith(2, 5, 0), tankWith(1, 0, 9), 8, part(-1, 1), []ratio{part(11, 2), part(8, 1)}}, {tankWith(2, 5, 0), tankWith(1, 0, 4), 5, part(0, 1), wholes(5, 4)},
	// All that is above the height comes over, and the tank at whose floor the pipe is runs dry.
	{tankWith(3, 10, 12), tankWith(2, 0, 0), 10, part(12, 1), wholes(10, 6)}, {tankWith(3, 10, 12), tankWith(2, 0, 8), 10, part(12, 1), wholes(10, 10)}, {tankWith(3, 10, 12), tankWith(2, 0, 9), 10, part(57, 5), []ratio{part(51, 5), part(51, 5)}}, {tankWith(3, 10, 12), tankWith(2, 0, 0), 13, part(3, 1), []ratio{part(13, 1), part(3, 2)}}, {tankWith(3, 10, 12), tankWith(2, 10, 0), 10, part(24, 5), []ratio{part(62, 5), part(62, 5)}},
	// Levels that are not whole.
	{tankWith(3, 1, 10), tankWith(2, 0, 1), 4, part(1, 1), wholes(4, 1)}, {tankWith(3, 1, 10), tankWith(2, 0, 1), 3, part(4, 1), []ratio{part(3, 1), part(5, 2)}}, {tankWith(3, 1, 10), tankWith(2, 0, 1), 2, part(23, 5), []ratio{part(14, 5), part(14, 5)}}, {tankWith(7, 0, 1), tankWith(5, 0, 0), 0, part(5, 12), []ratio{part(1, 12), part(1, 12)}}, {tankWith(50, 0, 1), tankWith(49, 0, 0), 0, part(49, 99), []ratio{part(1, 99), part(1, 99)}},
	// As great as numbers may be.
	{tankWith(50, 100, 10000), tankWith(50, 0, 0), 100, part(7500, 1), wholes(150, 150)}, {tankWith(1, 0, 10000), tankWith(50, 100, 0), 1000, part(9000, 1), wholes(1000, 280)}, {tankWith(1, 100, 10000), tankWith(1, 100, 10000), 1000, part(0, 1), wholes(10100, 10100)}, {tankWith(1, 100, 10000), tankWith(50, 0, 10000), 100, part(495000, 51), []ratio{part(20100, 51), part(20100, 51)}}, {tankWith(1, 0, 1001), tankWith(1, 0, 0), 1000, part(1, 1), wholes(1000, 1)}, {tankWith(1, 0, 1000), tankWith(1, 0, 0), 1000, part(0, 1), wholes(1000, 0)},
}

// lowered returns ratios in lowest terms, as cases may be written in other ones.
func lowered(list []ratio) []ratio {
	low := make([]ratio, len(list))
	for i, r := range list {
		low[i] = exact(rat(r))
	}
	return low
}

func TestPipes(t *testing.T) {
	for _, c := range pipeCases {
		flow, levels := exact(rat(c.flow)), lowered(c.levels)
		if r, ok := impl.FlowThrough(c.a, c.b, c.height); r != flow || !ok {
			t.Errorf("%v and %v at %d: flow %v, %t, want %v", c.a, c.b, c.height, r, ok, flow)
		}
		if list, ok := impl.PipeLevels(c.a, c.b, c.height); !same(list, levels) || !ok {
			t.Errorf("%v and %v at %d: levels %v, %t, want %v", c.a, c.b, c.height, list, ok, levels)
		}
		if r, ok := impl.FlowThrough(c.b, c.a, c.height); r != part(-flow.Num, flow.Den) || !ok {
			t.Errorf("%v and %v at %d: flow %v, %t, and %v the other way", c.b, c.a, c.height, r, ok, flow)
		}
		if list, ok := impl.PipeLevels(c.b, c.a, c.height); !same(list, []ratio{levels[1], levels[0]}) || !ok {
			t.Errorf("%v and %v at %d: levels %v, %t, and %v the other way", c.b, c.a, c.height, list, ok, levels)
		}
	}
}

// checkNoPipe checks that both functions of a pipe fail, whichever tank is the first one.
func checkNoPipe(t *testing.T, a tank, b tank, height int) {
	t.Helper()
	what := fmt.Sprint(a, b, height, ": ")
	checkFails(t, what+"PipeLevels", all(impl.PipeLevels(a, b, height))...)
	checkFails(t, what+"PipeLevels", all(impl.PipeLevels(b, a, height))...)
	checkFails(t, what+"FlowThrough", all(impl.FlowThrough(a, b, height))...)
	checkFails(t, what+"FlowThrough", all(impl.FlowThrough(b, a, height))...)
}

func TestPipesAreRequired(t *testing.T) {
	deep, low := tankWith(1, 0, 9), tankWith(1, 3, 9)
	for _, b := range []tank{deep, low, high, wide} {
		for _, height := range []int{-1, -1000, 1001, 1002, least, greatest, least + 1, greatest - 1} {
			checkNoPipe(t, deep, b, height)
		}
		for _, none := range noTanks {
			for _, height := range []int{-1, 0, 3, 100, 101, 1000} {
				checkNoPipe(t, none, b, height)
				checkNoPipe(t, none, none, height)
			}
		}
	}
	for _, c := range []struct {
		a, b    tank
		heights []int
	}{
		{deep, low, []int{0, 1, 2}}, {deep, high, []int{0, 1, 2}}, {wide, high, []int{0, 1, 2}}, {tankWith(1, 0, 0), high, []int{0, 2}}, {tankWith(1, 5, 9), low, []int{3, 4}}, {tankWith(1, 5, 9), low, []int{0, 1, 2}}, {low, low, []int{0, 1, 2}}, {tankWith(1, 100, 0), deep, []int{0, 9, 99}}, {tankWith(1, 100, 9), tankWith(1, 100, 0), []int{0, 99}},
	} {
		for _, height := range c.heights {
			checkNoPipe(t, c.a, c.b, height)
		}
		for _, height := range []int{max(c.a.Floor, c.b.Floor), max(c.a.Floor, c.b.Floor) + 1, 1000} {
			if levels, ok := impl.PipeLevels(c.a, c.b, height); len(levels) != 2 || !ok {
				t.Errorf("%v and %v at %d: %v, %t", c.a, c.b, height, levels, ok)
			}
			if flow, ok := impl.FlowThrough(c.a, c.b, height); !isLowest(flow) || !ok {
				t.Errorf("%v and %v at %d: %v, %t", c.a, c.b, height, flow, ok)
			}
		}
	}
}

// allJoins returns all joins of so many tanks, each once.
func allJoins(count int) [][]int {
	var joins [][]int
	for j := range count {
		for i := range j {
			joins = append(joins, []int{i, j})
		}
	}
	return joins
}

// six returns six tanks, no two alike.
func six() []tank {
	return []tank{tankWith(2, 0, 9), tankWith(1, 3, 0), tankWith(3, 1, 4), tankWith(1, 0, 7), tankWith(5, 2, 0), tankWith(4, 8, 2)}
}

// groupCase is joins of the first of six tanks, and the groups.
type groupCase struct {
	count  int
	joins  [][]int
	groups [][]int
}

var groupCases = []groupCase{
	// None are joined.
	{1, nil, [][]int{{0}}}, {1, [][]int{}, [][]int{{0}}}, {2, nil, [][]int{{0}, {1}}}, {3, [][]int{}, [][]int{{0}, {1}, {2}}}, {6, nil, [][]int{{0}, {1}, {2}, {3}, {4}, {5}}},
	{2, [][]int{{0, 1}}, [][]int{{0, 1}}}, {2, [][]int{{1, 0}}, [][]int{{0, 1}}}, {3, [][]int{{0, 2}}, [][]int{{0, 2}, {1}}}, {3, [][]int{{2, 1}}, [][]int{{0}, {1, 2}}}, {6, [][]int{{5, 0}}, [][]int{{0, 5}, {1}, {2}, {3}, {4}}}, {6, [][]int{{4, 5}}, [][]int{{0}, {1}, {2}, {3}, {4, 5}}},
	// Chains, in order and out of order.
	{6, [][]int{{0, 1}, {1, 2}, {2, 3}, {3, 4}, {4, 5}}, [][]int{{0, 1, 2, 3, 4, 5}}}, {6, [][]int{{5, 4}, {4, 3}, {3, 2}, {2, 1}, {1, 0}}, [][]int{{0, 1, 2, 3, 4, 5}}}, {6, [][]int{{5, 4}, {3, 2}, {1, 0}, {4, 3}, {2, 1}}, [][]int{{0, 1, 2, 3, 4, 5}}}, {6, [][]int{{2, 5}, {0, 3}, {3, 5}}, [][]int{{0, 2, 3, 5}, {1}, {4}}}, {5, [][]int{{4, 3}, {1, 2}, {3, 2}}, [][]int{{0}, {1, 2, 3, 4}}}, {4, [][]int{{2, 3}, {0, 2}}, [][]int{{0, 2, 3}, {1}}}, {6, [][]int{{5, 3}, {3, 1}, {4, 2}, {2, 0}}, [][]int{{0, 2, 4}, {1, 3, 5}}},
	// Rings.
	{3, [][]int{{0, 1}, {1, 2}, {2, 0}}, [][]int{{0, 1, 2}}}, {6, [][]int{{0, 1}, {1, 2}, {2, 3}, {3, 4}, {4, 5}, {5, 0}}, [][]int{{0, 1, 2, 3, 4, 5}}}, {6, [][]int{{1, 3}, {3, 5}, {5, 1}, {0, 2}, {2, 4}, {4, 0}}, [][]int{{0, 2, 4}, {1, 3, 5}}}, {6, [][]int{{5, 4}, {4, 3}, {3, 5}}, [][]int{{0}, {1}, {2}, {3, 4, 5}}},
	// Several groups, ordered by their first ones.
	{6, [][]int{{4, 1}, {5, 2}}, [][]int{{0}, {1, 4}, {2, 5}, {3}}}, {6, [][]int{{5, 0}, {4, 1}, {3, 2}}, [][]int{{0, 5}, {1, 4}, {2, 3}}}, {6, [][]int{{3, 2}, {4, 1}, {5, 0}}, [][]int{{0, 5}, {1, 4}, {2, 3}}}, {4, [][]int{{2, 3}, {0, 1}}, [][]int{{0, 1}, {2, 3}}}, {6, [][]int{{3, 4}, {4, 5}}, [][]int{{0}, {1}, {2}, {3, 4, 5}}},
	// The same two tanks more than once, in either order.
	{3, [][]int{{0, 1}, {0, 1}}, [][]int{{0, 1}, {2}}}, {3, [][]int{{0, 1}, {1, 0}, {0, 1}}, [][]int{{0, 1}, {2}}}, {4, [][]int{{3, 1}, {1, 3}, {2, 1}, {1, 2}}, [][]int{{0}, {1, 2, 3}}},
	// As many joins as there may be.
	{6, allJoins(6), [][]int{{0, 1, 2, 3, 4, 5}}}, {6, slices.Repeat([][]int{{5, 1}}, 15), [][]int{{0}, {1, 5}, {2}, {3}, {4}}}, {2, slices.Repeat([][]int{{1, 0}}, 15), [][]int{{0, 1}}},
}

// noJoins are lists of joins that are none of three tanks.
var noJoins = [][][]int{
	slices.Repeat([][]int{{0, 1}}, 16), append(allJoins(3), slices.Repeat([][]int{{2, 0}}, 13)...), slices.Repeat([][]int{{0, 1}}, 100),
	{{}}, {nil}, {{0}}, {{0, 1, 2}}, {{0, 1, 0}}, {{0, 1, 1}}, {{0, 0, 1}}, {{0, 1, 2, 0}}, {{0, 1}, {}}, {{0, 1}, {2}}, {{2}, {0, 1}}, {{0, 1}, {1, 2}, {0, 1, 2}}, {{0, 1}, nil, {1, 2}},
	{{0, 0}}, {{2, 2}}, {{0, 1}, {1, 1}}, {{1, 1}, {0, 1}},
	{{-1, 0}}, {{0, -1}}, {{3, 0}}, {{0, 3}}, {{2, 3}}, {{-1, -1}}, {{3, 3}}, {{-1, 3}}, {{0, 1}, {1, 3}}, {{0, 1}, {3, 1}}, {{0, 1}, {1, -1}}, {{0, 6}}, {{6, 0}}, {{0, 5}}, {{least, 0}}, {{0, least}}, {{greatest, 0}}, {{0, greatest}}, {{least, greatest}}, {{greatest, greatest}},
}

func TestGroups(t *testing.T) {
	for _, c := range groupCases {
		tanks := six()[:c.count]
		if is, ok := impl.AreJoins(tanks, c.joins); !is || !ok {
			t.Errorf("%v of %d: joins %t, %t", c.joins, c.count, is, ok)
		}
		if groups, ok := impl.GroupsOf(tanks, c.joins); !same(groups, c.groups) || !ok {
			t.Errorf("%v of %d: groups %v, %t, want %v", c.joins, c.count, groups, ok, c.groups)
		}
		var want []ratio
		for _, group := range c.groups {
			var members []tank
			for _, i := range group {
				members = append(members, tanks[i])
			}
			level, _ := impl.CommonLevel(members)
			want = append(want, level)
		}
		if levels, ok := impl.GroupLevels(tanks, c.joins); !same(levels, want) || !ok {
			t.Errorf("%v of %d: levels %v, %t, want %v", c.joins, c.count, levels, ok, want)
		}
		if _, ok := impl.IsAtRest(tanks, c.joins); !ok {
			t.Errorf("%v of %d: whether they rest is not told", c.joins, c.count)
		}
	}
}

func TestGroupLevels(t *testing.T) {
	for _, c := range []struct {
		joins [][]int
		want  []ratio
	}{
		{nil, []ratio{part(9, 2), part(3, 1), part(7, 3), part(7, 1), part(2, 1), part(17, 2)}}, {[][]int{{1, 0}}, []ratio{part(4, 1), part(7, 3), part(7, 1), part(2, 1), part(17, 2)}}, {[][]int{{0, 1}, {5, 4}}, []ratio{part(4, 1), part(7, 3), part(7, 1), part(12, 5)}}, {[][]int{{2, 3}, {0, 1}, {4, 5}}, []ratio{part(4, 1), part(7, 2), part(12, 5)}}, {[][]int{{3, 4}, {1, 4}}, []ratio{part(9, 2), part(17, 6), part(7, 3), part(17, 2)}},
		{allJoins(6), []ratio{part(19, 6)}}, {[][]int{{5, 0}, {0, 5}}, []ratio{part(11, 2), part(3, 1), part(7, 3), part(7, 1), part(2, 1)}},
	} {
		if levels, ok := impl.GroupLevels(six(), c.joins); !same(levels, c.want) || !ok {
			t.Errorf("%v: levels %v, %t, want %v", c.joins, levels, ok, c.want)
		}
	}
	if levels, ok := impl.GroupLevels([]tank{wide, high}, nil); !same(levels, []ratio{part(9, 2), part(3, 1)}) || !ok {
		t.Errorf("levels %v, %t", levels, ok)
	}
}

func TestIsAtRest(t *testing.T) {
	joined, rest := [][]int{{0, 1}}, []tank{tankWith(2, 0, 8), tankWith(1, 3, 1)}
	for _, c := range []struct {
		tanks []tank
		joins [][]int
		want  bool
	}{
		// Before and behind what comes to rest.
		{[]tank{wide, high}, joined, false}, {rest, joined, true}, {rest, [][]int{{1, 0}, {0, 1}}, true}, {[]tank{tankWith(2, 0, 7), tankWith(1, 3, 2)}, joined, false}, {[]tank{tankWith(2, 0, 9), tankWith(1, 3, 1)}, joined, false}, {[]tank{tankWith(2, 0, 8), tankWith(1, 3, 0)}, joined, false}, {stairs(15), allJoins(6), false},
		{[]tank{tankWith(1, 0, 5), tankWith(1, 1, 4), tankWith(1, 2, 3), tankWith(1, 3, 2), tankWith(1, 4, 1), tankWith(1, 5, 0)}, allJoins(6), true}, {[]tank{tankWith(1, 0, 5), tankWith(1, 1, 3), tankWith(1, 2, 4), tankWith(1, 3, 2), tankWith(1, 4, 1), tankWith(1, 5, 0)}, allJoins(6), false}, {slices.Repeat([]tank{tankWith(50, 100, 10000)}, 6), allJoins(6), true},
		// Dry tanks at the level and above it, and one below it.
		{[]tank{tankWith(2, 0, 6), high}, joined, true}, {[]tank{tankWith(2, 0, 4), high}, joined, true}, {[]tank{tankWith(2, 0, 7), high}, joined, false}, {[]tank{tankWith(2, 0, 0), tankWith(1, 3, 1)}, joined, false}, {[]tank{tankWith(2, 3, 1), tankWith(1, 3, 0)}, joined, false},
		// All are dry.
		{[]tank{tankWith(2, 0, 0), high}, joined, true}, {[]tank{high, high}, joined, true}, {stairs(0), allJoins(6), true},
		// The water that a tank would have is not whole.
		{[]tank{tankWith(1, 0, 1), tankWith(2, 0, 0)}, joined, false}, {[]tank{tankWith(1, 0, 1), tankWith(2, 0, 1)}, joined, false}, {[]tank{tankWith(1, 0, 1), tankWith(2, 0, 2)}, joined, true}, {[]tank{tankWith(2, 0, 1), tankWith(4, 0, 2)}, joined, true}, {[]tank{tankWith(2, 0, 1), tankWith(4, 0, 3)}, joined, false},
		// Without joins nothing flows.
		{[]tank{wide, high}, nil, true}, {[]tank{wide, high}, [][]int{}, true}, {[]tank{wide}, nil, true}, {[]tank{high}, nil, true}, {six(), nil, true}, {stairs(15), nil, true},
		// Several groups, of which none, one or all rest.
		{append(slices.Clone(rest), rest...), [][]int{{0, 1}, {2, 3}}, true}, {append(slices.Clone(rest), wide, high), [][]int{{0, 1}, {2, 3}}, false}, {append([]tank{wide, high}, rest...), [][]int{{0, 1}, {2, 3}}, false}, {append([]tank{wide, high}, rest...), [][]int{{2, 3}}, true}, {append([]tank{wide, high}, rest...), [][]int{{2, 0}}, false}, {append([]tank{wide, high}, rest...), [][]int{{1, 3}}, false}, {append([]tank{tankWith(2, 0, 8), high}, rest...), [][]int{{0, 3}}, true},
		{[]tank{wide, high, wide, high}, [][]int{{0, 2}, {1, 3}}, true}, {[]tank{wide, high, wide, high}, [][]int{{0, 1}, {2, 3}}, false},
	} {
		if is, ok := impl.IsAtRest(c.tanks, c.joins); is != c.want || !ok {
			t.Errorf("%v, %v: at rest %t, %t, want %t", c.tanks, c.joins, is, ok, c.want)
		}
	}
}

func TestJoinsAreRequired(t *testing.T) {
	tanks := []tank{tankWith(2, 0, 8), tankWith(1, 3, 1), tankWith(1, 0, 4)}
	for _, joins := range noJoins {
		what := brief(joins)
		if is, ok := impl.AreJoins(tanks, joins); is || !ok {
			t.Errorf("%s: joins %t, %t", what, is, ok)
		}
		checkNoGroups(t, tanks, joins)
	}
	// What are joins of six tanks are none of five, and with one tank nothing can be joined.
	for count, last := range []int{-1, 0, 1, 2, 3, 4, 5} {
		for i := range 6 {
			for j := range 6 {
				if count == 0 || i == j {
					continue
				}
				joins := [][]int{{i, j}}
				if is, ok := impl.AreJoins(six()[:count], joins); is != (i <= last && j <= last) || !ok {
					t.Errorf("%v of %d: joins %t, %t", joins, count, is, ok)
				}
				if i > last || j > last {
					checkNoGroups(t, six()[:count], joins)
				}
			}
		}
	}
}

// checkNoGroups checks that all functions of groups fail.
func checkNoGroups(t *testing.T, tanks []tank, joins [][]int) {
	t.Helper()
	what := brief(tanks) + brief(joins) + ": "
	checkFails(t, what+"GroupsOf", all(impl.GroupsOf(tanks, joins))...)
	checkFails(t, what+"GroupLevels", all(impl.GroupLevels(tanks, joins))...)
	checkFails(t, what+"IsAtRest", all(impl.IsAtRest(tanks, joins))...)
}

func TestTanksAreRequired(t *testing.T) {
	for _, tanks := range noTankLists() {
		what := brief(tanks) + ": "
		for _, joins := range [][][]int{nil, {}, {{0, 1}}, {{0, 0}}, allJoins(6), slices.Repeat([][]int{{0, 1}}, 16)} {
			checkNoGroups(t, tanks, joins)
			checkFails(t, what+"AreJoins", all(impl.AreJoins(tanks, joins))...)
		}
		for _, level := range someLevels {
			checkFails(t, what+"WaterBelow", all(impl.WaterBelow(tanks, level))...)
			checkFails(t, what+"WaterForLevel", all(impl.WaterForLevel(tanks, level))...)
		}
		for _, i := range []int{-1, 0, 1, len(tanks) - 1, len(tanks)} {
			checkFails(t, what+"FlowInto", all(impl.FlowInto(tanks, i))...)
		}
		checkFails(t, what+"CommonLevel", all(impl.CommonLevel(tanks))...)
		checkFails(t, what+"WaterAfter", all(impl.WaterAfter(tanks))...)
		checkFails(t, what+"WetTanks", all(impl.WetTanks(tanks))...)
		checkFails(t, what+"FloodOrder", all(impl.FloodOrder(tanks))...)
	}
}

func TestFloodOrder(t *testing.T) {
	for _, c := range []struct {
		floors, want []int
	}{
		{[]int{0}, []int{0}}, {[]int{100}, []int{0}}, {[]int{0, 3}, []int{0, 1}}, {[]int{3, 0}, []int{1, 0}}, {[]int{5, 5}, []int{0, 1}}, {[]int{0, 1, 2, 3, 4, 100}, []int{0, 1, 2, 3, 4, 5}}, {[]int{100, 4, 3, 2, 1, 0}, []int{5, 4, 3, 2, 1, 0}}, {times(7, 6), []int{0, 1, 2, 3, 4, 5}}, {times(0, 6), []int{0, 1, 2, 3, 4, 5}},
		{[]int{2, 1, 2, 1, 2, 1}, []int{1, 3, 5, 0, 2, 4}}, {[]int{1, 2, 1, 2, 1, 2}, []int{0, 2, 4, 1, 3, 5}}, {[]int{9, 9, 0, 9, 9, 0}, []int{2, 5, 0, 1, 3, 4}}, {[]int{3, 0, 2}, []int{1, 2, 0}}, {[]int{2, 3, 0, 3}, []int{2, 0, 1, 3}},
	} {
		// Neither areas nor water matter.
		for turn := range 4 {
			var tanks []tank
			for i, floor := range c.floors {
				tanks = append(tanks, tankWith(1+(i*turn*7)%50, floor, i*turn*1000%9999))
			}
			if order, ok := impl.FloodOrder(tanks); !same(order, c.want) || !ok {
				t.Errorf("%v: %v, %t, want %v", tanks, order, ok, c.want)
			}
		}
	}
}

func TestAddRatios(t *testing.T) {
	for _, c := range []struct{ a, b, want ratio }{
		{part(0, 1), part(0, 1), part(0, 1)}, {part(1, 1), part(2, 1), part(3, 1)}, {part(1, 2), part(1, 3), part(5, 6)}, {part(-1, 2), part(1, 3), part(-1, 6)}, {part(9, 2), part(-1, 2), part(4, 1)}, {part(-7, 3), part(0, 1), part(-7, 3)},
		// The sum has a lesser Den.
		{part(1, 2), part(1, 2), part(1, 1)}, {part(1, 3), part(1, 6), part(1, 2)}, {part(1, million), part(1, million), part(1, 500000)}, {part(1, 4), part(1, 4), part(1, 2)}, {part(-1, 6), part(-1, 3), part(-1, 2)}, {part(1, 6), part(1, 10), part(4, 15)}, {part(999999, million), part(1, million), part(1, 1)},
		// It is 0.
		{part(1, 2), part(-1, 2), part(0, 1)}, {part(-7, 1000), part(7, 1000), part(0, 1)}, {part(billions, 1), part(-billions, 1), part(0, 1)}, {part(billions-1, million), part(1-billions, million), part(0, 1)}, {part(billions, 999999), part(-billions, 999999), part(0, 1)},
		// Its Den is as great as it may be, or nearly so.
		{part(1, 64), part(1, 15625), part(15689, million)}, {part(-1, 64), part(1, 15625), part(-15561, million)}, {part(1, million), part(0, 1), part(1, million)}, {part(1, million), part(3, 1), part(3000001, million)}, {part(1, million), part(1, 2), part(500001, million)}, {part(1, 999), part(1, 1001), part(2000, 999999)}, {part(1, million), part(1, 1000), part(1001, million)}, {part(1, 999999), part(-1, 1), part(-999998, 999999)},
		// The size of its Num is as great as it may be, or nearly so.
		{part(billions, 1), part(0, 1), part(billions, 1)}, {part(-billions, 1), part(0, 1), part(-billions, 1)}, {part(billions-1, 1), part(1, 1), part(billions, 1)}, {part(1-billions, 1), part(-1, 1), part(-billions, 1)}, {part(billions, 1), part(-1, 1), part(billions-1, 1)}, {part(billions/2, 1), part(billions/2, 1), part(billions, 1)}, {part(billions-1, million), part(1, million), part(million, 1)},
		{part(billions-2000001, million), part(2, 1), part(billions-1, million)}, {part(499999999999, 2), part(1, 1), part(500000000001, 2)}, {part(billions-1, 2), part(1, 2), part(500000000000, 1)}, {part(billions, 3), part(-1, 3), part(333333333333, 1)}, {part(billions, 999999), part(-1, 999999), part(1000001, 1)},
	} {
		for _, pair := range [][2]ratio{{c.a, c.b}, {c.b, c.a}} {
			if r, ok := impl.AddRatios(pair[0], pair[1]); r != c.want || !ok {
				t.Errorf("%v: %v, %t, want %v", pair, r, ok, c.want)
			}
		}
	}
}

func TestSumsThatAreNoRatios(t *testing.T) {
	for _, c := range [][2]ratio{
		// The Den is too great.
		{part(1, 101), part(1, 9901)}, {part(1, 1000), part(1, 1001)}, {part(1, million), part(1, 3)}, {part(1, million), part(1, 999999)}, {part(1, million), part(-1, 999999)}, {part(1, 999999), part(-1, 2)}, {part(1, 999983), part(1, 2)},
		// The Num is too great.
		{part(billions, 1), part(1, 1)}, {part(-billions, 1), part(-1, 1)}, {part(billions, 1), part(1, 2)}, {part(billions, 1), part(-1, 2)}, {part(-billions, 1), part(1, 2)}, {part(billions, 1), part(billions, 1)}, {part(-billions, 1), part(-billions, 1)}, {part(billions-1, million), part(2, million)}, {part(1-billions, million), part(-2, million)}, {part(billions-1, 2), part(1, 1)}, {part(billions, 3), part(1, 3)}, {part(billions, 1), part(1, million)}, {part(billions/2, 1), part(billions/2+1, 1)}, {part(1000001, 1), part(1, million)},
		// Both are.
		{part(billions, 999999), part(billions-1, million)}, {part(-billions, 999999), part(1-billions, million)}, {part(billions, 999999), part(billions, 999983)},
	} {
		checkFails(t, fmt.Sprint(c, ": AddRatios"), all(impl.AddRatios(c[0], c[1]))...)
		checkFails(t, fmt.Sprint(c, ": AddRatios"), all(impl.AddRatios(c[1], c[0]))...)
	}
}

func TestRatiosAreRequired(t *testing.T) {
	for _, none := range noRatios {
		for _, r := range append(slices.Clone(someRatios), noRatios...) {
			checkFails(t, fmt.Sprint(none, r, ": AddRatios"), all(impl.AddRatios(none, r))...)
			checkFails(t, fmt.Sprint(r, none, ": AddRatios"), all(impl.AddRatios(r, none))...)
		}
	}
	for _, r := range someRatios {
		if sum, ok := impl.AddRatios(r, part(0, 1)); sum != r || !ok {
			t.Errorf("%v and 0: %v, %t", r, sum, ok)
		}
		if sum, ok := impl.AddRatios(part(-r.Num, r.Den), r); sum != part(0, 1) || !ok {
			t.Errorf("%v and its opposite: %v, %t", r, sum, ok)
		}
	}
}
