package tests

import (
	"fmt"
	"testing"

	"loop.example/g01208/impl"
)

// wheel are the caps of the chapter's example.
var wheel = []int{2, 3, 5}

// greatestWheel are the caps with the greatest round.
var greatestWheel = []int{60, 60, 60, 60, 60, 60}

// noCaps are lists that are no caps: limits exceeded by one, and numbers of any size in every place.
var noCaps = [][]int{
	nil, {}, {2, 2, 2, 2, 2, 2, 2}, {60, 60, 60, 60, 60, 60, 60},
	{1}, {61}, {0}, {-1}, {-2}, {least}, {greatest},
	{1, 3, 5}, {2, 1, 5}, {2, 3, 1}, {61, 3, 5}, {2, 61, 5}, {2, 3, 61}, {0, 3, 5}, {2, 0, 5}, {2, 3, 0}, {2, -3, 5}, {-2, -3, 5},
	{least, 3, 5}, {2, least, 5}, {2, 3, least}, {greatest, 3, 5}, {2, greatest, 5}, {2, 3, greatest}, {2, 2, 2, 2, 2, 1}, {2, 2, 2, 2, 2, 61},
	{least, least}, {greatest, greatest}, {least, greatest, least, greatest, least, greatest},
}

// noHeldByWheel are lists that the buckets of the example cannot hold.
var noHeldByWheel = [][]int{
	nil, {}, {0}, {0, 0}, {0, 0, 0, 0}, {1, 2, 4, 0},
	{2, 0, 0}, {0, 3, 0}, {0, 0, 5}, {2, 3, 5}, {1, 2, 5}, {-1, 0, 0}, {0, -1, 0}, {0, 0, -1}, {-1, -1, -1},
	{least, 0, 0}, {0, least, 0}, {0, 0, least}, {greatest, 0, 0}, {0, greatest, 0}, {0, 0, greatest}, {least, least, least}, {greatest, greatest, greatest},
}

// Numbers that are no number of drops, and no room of a gauge.
var (
	noDropCounts = []int{-1, impl.MaxDrops + 1, least, greatest, least + 1, greatest - 1}
	noRooms      = []int{-1, 0, 61, least, greatest}
)

// noDays are lists that are neither rain nor tips.
var noDays = [][]int{
	times(0, 101), times(10000, 101), {-1}, {10001}, {least}, {greatest}, {3, 2, -1}, {-1, 2, 9}, {3, -1, 9}, {10001, 2, 9}, {3, 10001, 9}, {3, 2, 10001},
	{least, 0}, {0, least}, {greatest, 0}, {0, greatest}, {least, greatest}, {greatest, greatest}, {3, -3}, append(times(0, 99), -1), append(times(0, 99), 10001),
}

func TestAreCaps(t *testing.T) {
	for _, caps := range [][]int{wheel, {2}, {60}, {2, 60}, {2, 2, 2, 2, 2, 2}, greatestWheel, {59, 3, 60, 2}} {
		if !impl.AreCaps(caps) {
			t.Errorf("%v: no caps", caps)
		}
	}
	for _, caps := range noCaps {
		if impl.AreCaps(caps) {
			t.Errorf("%v: caps", caps)
		}
	}
}

func TestExampleOfBuckets(t *testing.T) {
	if held, ok := impl.HeldAfter(wheel, 7); !same(held, []int{1, 0, 1}) || !ok {
		t.Errorf("held %v, %t", held, ok)
	}
	if tips, ok := impl.TipsAfter(wheel, 7); !same(tips, []int{3, 1, 0}) || !ok {
		t.Errorf("tips %v, %t", tips, ok)
	}
	if n, ok := impl.RoundOf(wheel); n != 30 || !ok {
		t.Errorf("round %d, %t", n, ok)
	}
	if n, ok := impl.TipsAtDrop(wheel, 6); n != 2 || !ok {
		t.Errorf("%d tips at the 6th drop, %t", n, ok)
	}
	if tips, ok := impl.TipsOfRain(4, []int{3, 2, 9}); !same(tips, []int{0, 1, 2}) || !ok {
		t.Errorf("tips of rain %v, %t", tips, ok)
	}
	if n, ok := impl.RestOfRain(4, []int{3, 2, 9}); n != 2 || !ok {
		t.Errorf("rest %d, %t", n, ok)
	}
	if low, high, ok := impl.RangeOfTips(4, []int{0, 1, 2}); low != 12 || high != 15 || !ok {
		t.Errorf("range %d, %d, %t", low, high, ok)
	}
	if low, high, ok := impl.RangeOfTwo(4, 5, []int{0, 1, 2}, []int{2}); low != 12 || high != 14 || !ok {
		t.Errorf("range of two %d, %d, %t", low, high, ok)
	}
}

func TestDropsInBuckets(t *testing.T) {
	cases := []struct {
		caps       []int
		n          int
		held, tips []int
		last       int
	}{
		{wheel, 1, []int{1, 0, 0}, []int{0, 0, 0}, 0}, {wheel, 2, []int{0, 1, 0}, []int{1, 0, 0}, 1}, {wheel, 5, []int{1, 2, 0}, []int{2, 0, 0}, 0}, {wheel, 6, []int{0, 0, 1}, []int{3, 1, 0}, 2},
		// A round, one less and one more: at its last drop all tip, and one drop is lost behind the last bucket.
		{wheel, 29, []int{1, 2, 4}, []int{14, 4, 0}, 0}, {wheel, 30, []int{0, 0, 0}, []int{15, 5, 1}, 3}, {wheel, 31, []int{1, 0, 0}, []int{15, 5, 1}, 0},
		{wheel, 59, []int{1, 2, 4}, []int{29, 9, 1}, 0}, {wheel, 60, []int{0, 0, 0}, []int{30, 10, 2}, 3},
		{wheel, 999999, []int{1, 1, 1}, []int{499999, 166666, 33333}, 0}, {wheel, impl.MaxDrops, []int{0, 2, 1}, []int{500000, 166666, 33333}, 1},
		{[]int{2}, 1, []int{1}, []int{0}, 0}, {[]int{2}, 2, []int{0}, []int{1}, 1}, {[]int{2}, 3, []int{1}, []int{1}, 0}, {[]int{2}, impl.MaxDrops, []int{0}, []int{500000}, 1},
		{[]int{60}, 59, []int{59}, []int{0}, 0}, {[]int{60}, 60, []int{0}, []int{1}, 1}, {[]int{60}, 61, []int{1}, []int{1}, 0}, {[]int{60}, impl.MaxDrops, []int{40}, []int{16666}, 0},
		{[]int{2, 2, 2, 2, 2, 2}, 63, []int{1, 1, 1, 1, 1, 1}, []int{31, 15, 7, 3, 1, 0}, 0}, {[]int{2, 2, 2, 2, 2, 2}, 64, []int{0, 0, 0, 0, 0, 0}, []int{32, 16, 8, 4, 2, 1}, 6},
		{[]int{2, 2, 2, 2, 2, 2}, impl.MaxDrops, []int{0, 0, 0, 0, 0, 0}, []int{500000, 250000, 125000, 62500, 31250, 15625}, 6},
		{greatestWheel, 216000, []int{0, 0, 0, 1, 0, 0}, []int{3600, 60, 1, 0, 0, 0}, 3}, {greatestWheel, impl.MaxDrops, []int{40, 46, 37, 4, 0, 0}, []int{16666, 277, 4, 0, 0, 0}, 0},
		{[]int{60, 2}, 120, []int{0, 0}, []int{2, 1}, 2}, {[]int{2, 60}, 119, []int{1, 59}, []int{59, 0}, 0},
	}
	for _, c := range cases {
		if held, ok := impl.HeldAfter(c.caps, c.n); !same(held, c.held) || !ok {
			t.Errorf("%v behind %d drops: held %v, %t, want %v", c.caps, c.n, held, ok, c.held)
		}
		if tips, ok := impl.TipsAfter(c.caps, c.n); !same(tips, c.tips) || !ok {
			t.Errorf("%v behind %d drops: tips %v, %t, want %v", c.caps, c.n, tips, ok, c.tips)
		}
		if n, ok := impl.TipsAtDrop(c.caps, c.n); n != c.last || !ok {
			t.Errorf("%v at drop %d: %d tips, %t, want %d", c.caps, c.n, n, ok, c.last)
		}
	}
}

func TestNoDrops(t *testing.T) {
	for _, caps := range [][]int{wheel, {2}, {60}, {2, 2, 2, 2, 2, 2}, greatestWheel} {
		none := times(0, len(caps))
		if held, ok := impl.HeldAfter(caps, 0); !same(held, none) || !ok {
			t.Errorf("%v: held %v, %t", caps, held, ok)
		}
		if tips, ok := impl.TipsAfter(caps, 0); !same(tips, none) || !ok {
			t.Errorf("%v: tips %v, %t", caps, tips, ok)
		}
		if n, ok := impl.DropsFor(caps, none); n != 0 || !ok {
			t.Errorf("%v: %d drops, %t", caps, n, ok)
		}
		checkFails(t, fmt.Sprint(caps, ": TipsAtDrop"), all(impl.TipsAtDrop(caps, 0))...)
	}
	for _, held := range [][]int{{0, 0, 0}, {1, 2, 4}, {0, 1, 0}} {
		if got, ok := impl.AddDrops(wheel, held, 0); !same(got, held) || !ok {
			t.Errorf("%v and no drops: %v, %t", held, got, ok)
		}
		if got, ok := impl.BackDrops(wheel, held, 0); !same(got, held) || !ok {
			t.Errorf("%v no drops before: %v, %t", held, got, ok)
		}
	}
}

func TestRoundOf(t *testing.T) {
	for _, c := range []struct {
		caps []int
		want int
	}{
		{wheel, 30}, {[]int{2}, 2}, {[]int{60}, 60}, {[]int{2, 2, 2, 2, 2, 2}, 64}, {[]int{60, 2, 59}, 7080}, {[]int{10, 10, 10, 10, 10, 10}, impl.MaxDrops}, {greatestWheel, 46656000000},
	} {
		if n, ok := impl.RoundOf(c.caps); n != c.want || !ok {
			t.Errorf("%v: %d, %t, want %d", c.caps, n, ok, c.want)
		}
	}
}

func TestDropsFor(t *testing.T) {
	tens := []int{10, 10, 10, 10, 10, 10}
	for _, c := range []struct {
		caps, held []int
		want       int
	}{
		{wheel, []int{1, 0, 1}, 7}, {wheel, []int{1, 2, 4}, 29}, {wheel, []int{0, 0, 4}, 24}, {wheel, []int{0, 2, 0}, 4}, {[]int{2}, []int{1}, 1}, {[]int{60}, []int{59}, 59},
		{tens, []int{9, 9, 9, 9, 9, 9}, 999999}, {tens, []int{3, 2, 1, 0, 0, 1}, 100123},
		// Just MaxDrops make it, one more, and as many as leave one to a round.
		{greatestWheel, []int{40, 46, 37, 4, 0, 0}, impl.MaxDrops}, {greatestWheel, []int{41, 46, 37, 4, 0, 0}, impl.MaxDrops + 1},
		{greatestWheel, []int{0, 0, 0, 0, 1, 0}, 12960000}, {greatestWheel, []int{0, 0, 0, 0, 0, 1}, 777600000}, {greatestWheel, []int{59, 59, 59, 59, 59, 59}, 46655999999},
	} {
		n, ok := impl.DropsFor(c.caps, c.held)
		if n != c.want || !ok {
			t.Errorf("%v for %v: %d, %t, want %d", c.caps, c.held, n, ok, c.want)
		}
		if held, ok := impl.HeldAfter(c.caps, n); n <= impl.MaxDrops && (!same(held, c.held) || !ok) {
			t.Errorf("%v behind %d drops: %v, %t, want %v", c.caps, n, held, ok, c.held)
		}
	}
}

func TestDropsOnAndBack(t *testing.T) {
	for _, c := range []struct {
		caps, before []int
		n            int
		behind       []int
	}{
		{wheel, []int{1, 0, 1}, 1, []int{0, 1, 1}}, {wheel, []int{1, 2, 0}, 1, []int{0, 0, 1}}, {wheel, []int{1, 2, 4}, 1, []int{0, 0, 0}}, {wheel, []int{0, 0, 0}, 7, []int{1, 0, 1}},
		{wheel, []int{1, 1, 1}, 30, []int{1, 1, 1}}, {wheel, []int{1, 1, 1}, 29, []int{0, 1, 1}}, {wheel, []int{1, 1, 1}, 31, []int{0, 2, 1}}, {wheel, []int{0, 2, 4}, 61, []int{1, 2, 4}},
		{wheel, []int{0, 1, 0}, impl.MaxDrops, []int{0, 0, 2}}, {[]int{2}, []int{1}, impl.MaxDrops, []int{1}}, {[]int{2}, []int{1}, 999999, []int{0}}, {[]int{60}, []int{30}, 30, []int{0}}, {[]int{60}, []int{59}, impl.MaxDrops, []int{39}},
		{greatestWheel, []int{59, 59, 59, 59, 59, 59}, 1, []int{0, 0, 0, 0, 0, 0}}, {greatestWheel, []int{59, 59, 59, 59, 58, 0}, 1, []int{0, 0, 0, 0, 59, 0}},
		{greatestWheel, []int{20, 13, 22, 55, 59, 59}, impl.MaxDrops, []int{0, 0, 0, 0, 0, 0}},
	} {
		if got, ok := impl.AddDrops(c.caps, c.before, c.n); !same(got, c.behind) || !ok {
			t.Errorf("%v: %v and %d drops: %v, %t, want %v", c.caps, c.before, c.n, got, ok, c.behind)
		}
		if got, ok := impl.BackDrops(c.caps, c.behind, c.n); !same(got, c.before) || !ok {
			t.Errorf("%v: %v, %d drops before: %v, %t, want %v", c.caps, c.behind, c.n, got, ok, c.before)
		}
	}
}

func TestCapsAreRequired(t *testing.T) {
	for _, caps := range noCaps {
		what := fmt.Sprint(caps, ": ")
		for _, n := range []int{0, 1, 7, impl.MaxDrops} {
			checkNoDrops(t, what, caps, n)
			for _, held := range [][]int{times(0, len(caps)), nil, {0}, {0, 0, 0}} {
				checkFails(t, what+"AddDrops", all(impl.AddDrops(caps, held, n))...)
				checkFails(t, what+"BackDrops", all(impl.BackDrops(caps, held, n))...)
				checkFails(t, what+"DropsFor", all(impl.DropsFor(caps, held))...)
			}
		}
		checkFails(t, what+"RoundOf", all(impl.RoundOf(caps))...)
	}
}

// checkNoDrops checks that all functions of caps and a number of drops alone fail.
func checkNoDrops(t *testing.T, what string, caps []int, n int) {
	t.Helper()
	checkFails(t, what+"HeldAfter", all(impl.HeldAfter(caps, n))...)
	checkFails(t, what+"TipsAfter", all(impl.TipsAfter(caps, n))...)
	checkFails(t, what+"TipsAtDrop", all(impl.TipsAtDrop(caps, n))...)
}

func TestNumbersOfDropsAreRequired(t *testing.T) {
	for _, n := range noDropCounts {
		for _, caps := range [][]int{wheel, {2}, greatestWheel} {
			what := fmt.Sprint(n, " drops in ", caps, ": ")
			checkNoDrops(t, what, caps, n)
			checkFails(t, what+"AddDrops", all(impl.AddDrops(caps, times(0, len(caps)), n))...)
			checkFails(t, what+"BackDrops", all(impl.BackDrops(caps, times(0, len(caps)), n))...)
		}
	}
}

func TestWhatIsHeldIsRequired(t *testing.T) {
	for _, held := range noHeldByWheel {
		what := fmt.Sprint(held, ": ")
		for _, n := range []int{0, 1, 30, impl.MaxDrops} {
			checkFails(t, what+"AddDrops", all(impl.AddDrops(wheel, held, n))...)
			checkFails(t, what+"BackDrops", all(impl.BackDrops(wheel, held, n))...)
		}
		checkFails(t, what+"DropsFor", all(impl.DropsFor(wheel, held))...)
	}
}

func TestRainInGauges(t *testing.T) {
	cases := []struct {
		room        int
		rain        []int
		tips        []int
		rest, first int
	}{
		{4, []int{3, 2, 9}, []int{0, 1, 2}, 2, 2}, {4, []int{4}, []int{1}, 0, 1}, {4, []int{0, 0, 4}, []int{0, 0, 1}, 0, 3}, {4, []int{9, 3, 0}, []int{2, 1, 0}, 0, 1},
		{1, []int{0, 1, 10000, 0}, []int{0, 1, 10000, 0}, 0, 2}, {60, []int{59, 1, 10000, 20}, []int{0, 1, 166, 1}, 0, 2}, {60, []int{10000, 10000}, []int{166, 167}, 20, 1},
		{60, append(times(0, 99), 60), append(times(0, 99), 1), 0, 100},
		// The gauge never tips.
		{4, nil, nil, 0, 0}, {1, []int{}, nil, 0, 0}, {1, times(0, 100), times(0, 100), 0, 0}, {4, []int{1, 0, 1, 1}, times(0, 4), 3, 0}, {60, []int{59}, []int{0}, 59, 0}, {60, append(times(0, 41), times(1, 59)...), times(0, 100), 59, 0},
	}
	for _, c := range cases {
		if tips, ok := impl.TipsOfRain(c.room, c.rain); !same(tips, c.tips) || !ok {
			t.Errorf("%d and %v: tips %v, %t, want %v", c.room, c.rain, tips, ok, c.tips)
		}
		if n, ok := impl.RestOfRain(c.room, c.rain); n != c.rest || !ok {
			t.Errorf("%d and %v: rest %d, %t, want %d", c.room, c.rain, n, ok, c.rest)
		}
		first, ok := impl.FirstTip(c.room, c.rain)
		if first != c.first || ok != (c.first > 0) {
			t.Errorf("%d and %v: first tip %d, %t, want %d", c.room, c.rain, first, ok, c.first)
		}
	}
}

func TestMostRain(t *testing.T) {
	rain := times(10000, 100)
	var want []int
	for day := range rain {
		want = append(want, 10000*(day+1)/60-10000*day/60)
	}
	if tips, ok := impl.TipsOfRain(60, rain); !same(tips, want) || sumOf(tips) != 16666 || !ok {
		t.Errorf("tips %v, %t, want %v", tips, ok, want)
	}
	if n, ok := impl.RestOfRain(60, rain); n != 40 || !ok {
		t.Errorf("rest %d, %t", n, ok)
	}
	if tips, ok := impl.TipsOfRain(1, rain); !same(tips, rain) || !ok {
		t.Errorf("room 1: tips %v, %t", tips, ok)
	}
	if low, high, ok := impl.RangeOfTwo(60, 1, want, rain); low != 1000000 || high != 1000000 || !ok {
		t.Errorf("range %d, %d, %t", low, high, ok)
	}
}

func TestRangeOfTips(t *testing.T) {
	for _, c := range []struct {
		room      int
		tips      []int
		low, high int
	}{
		{4, []int{0, 1, 2}, 12, 15}, {4, []int{3}, 12, 15}, {4, nil, 0, 3}, {4, []int{}, 0, 3}, {4, []int{0, 0}, 0, 3}, {1, []int{2, 5}, 7, 7}, {1, nil, 0, 0}, {60, []int{1}, 60, 119}, {60, times(0, 100), 0, 59},
		{1, times(10000, 100), 1000000, 1000000},
		// Sums that are more than all rain there is are numbers like others.
		{2, times(10000, 100), 2000000, 2000001}, {60, times(10000, 100), 60000000, 60000059}, {60, []int{10000}, 600000, 600059}, {60, append(times(166, 99), 233), 1000020, 1000079},
	} {
		low, high, ok := impl.RangeOfTips(c.room, c.tips)
		if low != c.low || high != c.high || !ok {
			t.Errorf("%d and %v: %d, %d, %t, want %d, %d", c.room, c.tips, low, high, ok, c.low, c.high)
		}
		if low, high, ok = impl.RangeOfTwo(c.room, c.room, c.tips, c.tips); low != c.low || high != c.high || !ok {
			t.Errorf("%d and %v, twice: %d, %d, %t, want %d, %d", c.room, c.tips, low, high, ok, c.low, c.high)
		}
	}
}

func TestRangeOfTwo(t *testing.T) {
	for _, c := range []struct {
		a, b        int
		tips, other []int
		low, high   int
	}{
		{4, 5, []int{0, 1, 2}, []int{2}, 12, 14}, {5, 4, []int{2}, []int{0, 1, 2}, 12, 14}, {4, 5, []int{2}, []int{2}, 10, 11}, {4, 5, nil, nil, 0, 3}, {4, 5, nil, []int{0, 0}, 0, 3},
		{4, 60, []int{3}, nil, 12, 15}, {60, 1, []int{1}, []int{30, 40}, 70, 70}, {60, 7, []int{1}, []int{5, 5}, 70, 76},
		// One sum alone is in both ranges.
		{4, 5, []int{3}, []int{3}, 15, 15}, {5, 4, []int{1}, []int{2}, 8, 9}, {3, 5, []int{3}, []int{1}, 9, 9}, {1, 1, []int{7}, []int{3, 4}, 7, 7}, {2, 60, times(10000, 100), append(times(333, 99), 366), 2000000, 2000001},
		// The lists have different lengths, and the same tips.
		{4, 4, []int{1, 1, 1}, []int{3}, 12, 15}, {4, 4, times(1, 100), []int{100}, 400, 403},
	} {
		if low, high, ok := impl.RangeOfTwo(c.a, c.b, c.tips, c.other); low != c.low || high != c.high || !ok {
			t.Errorf("%d, %d, %v, %v: %d, %d, %t, want %d, %d", c.a, c.b, c.tips, c.other, low, high, ok, c.low, c.high)
		}
	}
}

func TestGaugesWithNoRainInCommon(t *testing.T) {
	for _, c := range []struct {
		a, b        int
		tips, other []int
	}{
		{4, 4, []int{3}, []int{2}}, {4, 4, []int{3}, []int{2, 2}}, {1, 1, []int{1}, nil}, {4, 5, []int{3}, []int{1}}, {4, 5, []int{3}, []int{4}}, {4, 5, []int{1}, []int{2}}, {4, 6, []int{2}, []int{2}},
		{60, 1, nil, []int{60}}, {60, 1, []int{1}, []int{59}}, {60, 60, times(10000, 100), append(times(10000, 99), 9999)},
	} {
		checkFails(t, fmt.Sprint(c), all(impl.RangeOfTwo(c.a, c.b, c.tips, c.other))...)
		checkFails(t, fmt.Sprint(c), all(impl.RangeOfTwo(c.b, c.a, c.other, c.tips))...)
	}
}

func TestRainOfTips(t *testing.T) {
	for _, c := range []struct {
		room       int
		tips, rain []int
	}{
		{4, []int{0, 1, 2}, []int{0, 4, 8}}, {4, nil, nil}, {4, []int{}, nil}, {4, []int{0}, []int{0}}, {4, []int{3, 0, 0, 1}, []int{12, 0, 0, 4}}, {60, times(0, 100), times(0, 100)},
		// The amount of some day is just the greatest there is.
		{1, []int{10000, 0, 9999}, []int{10000, 0, 9999}}, {1, times(10000, 100), times(10000, 100)}, {4, []int{2500}, []int{10000}}, {2, []int{0, 5000, 1}, []int{0, 10000, 2}}, {50, []int{1, 200}, []int{50, 10000}},
		{60, []int{166}, []int{9960}}, {60, times(166, 100), times(9960, 100)}, {3, []int{3333}, []int{9999}},
	} {
		rain, ok := impl.RainOfTips(c.room, c.tips)
		if !same(rain, c.rain) || !ok {
			t.Errorf("%d and %v: %v, %t, want %v", c.room, c.tips, rain, ok, c.rain)
		}
		if tips, ok := impl.TipsOfRain(c.room, rain); !same(tips, c.tips) || !ok {
			t.Errorf("%d and %v: tips of the rain %v, %t", c.room, c.tips, tips, ok)
		}
	}
}

func TestTipsWithoutRain(t *testing.T) {
	for _, c := range []struct {
		room int
		tips []int
	}{
		{4, []int{2501}}, {4, []int{10000}}, {2, []int{5001}}, {50, []int{201}}, {60, []int{167}}, {60, []int{0, 167}}, {60, []int{167, 0}}, {60, append(times(0, 99), 167)}, {3, []int{3334}}, {60, times(10000, 100)}, {2, []int{0, 1, 10000}},
	} {
		checkFails(t, fmt.Sprint(c), all(impl.RainOfTips(c.room, c.tips))...)
	}
}

// checkNoGauge checks that all functions of one gauge fail.
func checkNoGauge(t *testing.T, room int, days []int) {
	t.Helper()
	what := fmt.Sprint("room ", room, ", ", days, ": ")
	checkFails(t, what+"TipsOfRain", all(impl.TipsOfRain(room, days))...)
	checkFails(t, what+"RestOfRain", all(impl.RestOfRain(room, days))...)
	checkFails(t, what+"FirstTip", all(impl.FirstTip(room, days))...)
	checkFails(t, what+"RainOfTips", all(impl.RainOfTips(room, days))...)
	checkFails(t, what+"RangeOfTips", all(impl.RangeOfTips(room, days))...)
	checkFails(t, what+"RangeOfTwo", all(impl.RangeOfTwo(room, 1, days, nil))...)
	checkFails(t, what+"RangeOfTwo", all(impl.RangeOfTwo(1, room, nil, days))...)
	checkFails(t, what+"RangeOfTwo", all(impl.RangeOfTwo(room, room, days, days))...)
}

func TestRoomsAreRequired(t *testing.T) {
	for _, room := range noRooms {
		for _, days := range [][]int{nil, {}, {0}, {3, 2, 9}, {10000}, times(0, 100)} {
			checkNoGauge(t, room, days)
		}
		checkFails(t, "RangeOfTwo", all(impl.RangeOfTwo(room, 4, []int{3}, []int{3}))...)
		checkFails(t, "RangeOfTwo", all(impl.RangeOfTwo(4, room, []int{3}, []int{3}))...)
	}
}

func TestRainAndTipsAreRequired(t *testing.T) {
	for _, days := range noDays {
		for _, room := range []int{1, 4, 60, 0, least} {
			checkNoGauge(t, room, days)
		}
	}
}
