package tests

import (
	"fmt"
	"testing"

	"loop.example/g01208/impl"
)

// example is the siphon of the chapter's example.
var example = siphon{Size: 10, Low: 1, Start: 8, Flow: 4}

// Chains whose two numbers are together just 5000, and one more, with the inflow 1.
var (
	justRound = []siphon{{Size: 28, Low: 6, Start: 17, Flow: 14}, {Size: 3, Low: 2, Start: 3, Flow: 5}, {Size: 46, Low: 5, Start: 35, Flow: 1}, {Size: 59, Low: 1, Start: 14, Flow: 6}}
	moreRound = []siphon{{Size: 52, Low: 20, Start: 35, Flow: 6}, {Size: 30, Low: 5, Start: 29, Flow: 1}, {Size: 59, Low: 20, Start: 58, Flow: 3}, {Size: 30, Low: 4, Start: 24, Flow: 14}}
)

// noSiphons are values that are no siphons: bounds exceeded by one, and numbers of any size in every field.
var noSiphons = []siphon{
	{},
	{Size: 0, Low: 0, Start: 0, Flow: 1}, {Size: 0, Low: 0, Start: 1, Flow: 1}, {Size: -1, Low: 0, Start: 1, Flow: 1}, {Size: 61, Low: 1, Start: 8, Flow: 4},
	{Size: 10, Low: -1, Start: 8, Flow: 4}, {Size: 10, Low: -1, Start: 0, Flow: 4}, {Size: 10, Low: 8, Start: 8, Flow: 4}, {Size: 10, Low: 9, Start: 8, Flow: 4}, {Size: 10, Low: 10, Start: 10, Flow: 4},
	{Size: 10, Low: 1, Start: 11, Flow: 4}, {Size: 10, Low: 1, Start: 1, Flow: 4}, {Size: 10, Low: 1, Start: 0, Flow: 4}, {Size: 10, Low: 0, Start: 0, Flow: 4},
	{Size: 10, Low: 1, Start: 8, Flow: 0}, {Size: 10, Low: 1, Start: 8, Flow: -1}, {Size: 10, Low: 1, Start: 8, Flow: 61},
	{Size: least, Low: 1, Start: 8, Flow: 4}, {Size: greatest, Low: 1, Start: 8, Flow: 4}, {Size: 10, Low: least, Start: 8, Flow: 4}, {Size: 10, Low: greatest, Start: 8, Flow: 4},
	{Size: 10, Low: 1, Start: least, Flow: 4}, {Size: 10, Low: 1, Start: greatest, Flow: 4}, {Size: 10, Low: 1, Start: 8, Flow: least}, {Size: 10, Low: 1, Start: 8, Flow: greatest},
	{Size: least, Low: least, Start: least, Flow: least}, {Size: greatest, Low: greatest, Start: greatest, Flow: greatest}, {Size: greatest, Low: least, Start: 0, Flow: greatest},
}

// noInflows are numbers that are no inflows.
var noInflows = []int{-1, 61, least, greatest}

// still and running return the levels that hold an amount.
func still(held int) level {
	return level{Held: held}
}

func running(held int) level {
	return level{Held: held, Running: true}
}

func TestIsSiphon(t *testing.T) {
	for _, s := range []siphon{
		example, {Size: 1, Low: 0, Start: 1, Flow: 1}, {Size: 1, Low: 0, Start: 1, Flow: 60}, {Size: 60, Low: 0, Start: 60, Flow: 60}, {Size: 60, Low: 59, Start: 60, Flow: 1},
		{Size: 60, Low: 0, Start: 1, Flow: 1}, {Size: 10, Low: 7, Start: 8, Flow: 11}, {Size: 10, Low: 0, Start: 10, Flow: 4},
	} {
		if !impl.IsSiphon(s) {
			t.Errorf("%+v: no siphon", s)
		}
	}
	for _, s := range noSiphons {
		if impl.IsSiphon(s) {
			t.Errorf("%+v: a siphon", s)
		}
	}
}

func TestIsSiphonLevel(t *testing.T) {
	for _, held := range []int{0, 1, 2, 7, 8, 10} {
		for _, l := range []level{still(held), running(held)} {
			if is, ok := impl.IsSiphonLevel(example, l); !is || !ok {
				t.Errorf("%v: %t, %t", l, is, ok)
			}
		}
	}
	for _, held := range []int{-1, 11, 60, least, greatest} {
		for _, l := range []level{still(held), running(held)} {
			if is, ok := impl.IsSiphonLevel(example, l); is || !ok {
				t.Errorf("%v: %t, %t", l, is, ok)
			}
		}
	}
}

func TestSiphonsAreRequired(t *testing.T) {
	for _, s := range noSiphons {
		what := fmt.Sprintf("%+v: ", s)
		for _, l := range []level{still(0), running(1)} {
			checkFails(t, what+"IsSiphonLevel", all(impl.IsSiphonLevel(s, l))...)
			checkFails(t, what+"TickSiphon", all(impl.TickSiphon(s, l, 3))...)
			for _, inflows := range [][]int{nil, {3}, {0, 60}} {
				checkFails(t, what+"OutsOf", all(impl.OutsOf(s, l, inflows))...)
				checkFails(t, what+"LevelsOf", all(impl.LevelsOf(s, l, inflows))...)
				checkFails(t, what+"SpiltOf", all(impl.SpiltOf(s, l, inflows))...)
			}
		}
		for _, x := range []int{0, 3, 60} {
			checkNoSteady(t, s, x)
		}
		checkFails(t, what+"CapacityOf", all(impl.CapacityOf(s))...)
	}
}

// checkNoSteady checks that all functions of a steady inflow fail.
func checkNoSteady(t *testing.T, s siphon, x int) {
	t.Helper()
	what := fmt.Sprintf("%+v, inflow %d: ", s, x)
	checkFails(t, what+"FirstRun", all(impl.FirstRun(s, x))...)
	checkFails(t, what+"PeriodOfSiphon", all(impl.PeriodOfSiphon(s, x))...)
	checkFails(t, what+"PulseOf", all(impl.PulseOf(s, x))...)
	checkFails(t, what+"SpiltInPeriod", all(impl.SpiltInPeriod(s, x))...)
	checkFails(t, what+"NeverStops", all(impl.NeverStops(s, x))...)
}

func TestLevelsAreRequired(t *testing.T) {
	for _, held := range []int{-1, 11, least, greatest} {
		for _, l := range []level{still(held), running(held)} {
			checkFails(t, "TickSiphon", all(impl.TickSiphon(example, l, 3))...)
			for _, inflows := range [][]int{nil, {3}} {
				checkFails(t, "OutsOf", all(impl.OutsOf(example, l, inflows))...)
				checkFails(t, "LevelsOf", all(impl.LevelsOf(example, l, inflows))...)
				checkFails(t, "SpiltOf", all(impl.SpiltOf(example, l, inflows))...)
			}
		}
	}
}

func TestInflowsAreRequired(t *testing.T) {
	for _, x := range noInflows {
		checkFails(t, "TickSiphon", all(impl.TickSiphon(example, still(0), x))...)
		checkNoSteady(t, example, x)
		checkFails(t, "PeriodOfChain", all(impl.PeriodOfChain([]siphon{example}, x))...)
		for _, inflows := range [][]int{{x}, {3, x}, {x, 3}, {3, x, 3}} {
			checkNoInflows(t, inflows)
		}
	}
	for _, x := range []int{0, 3, 60} {
		checkNoInflows(t, times(x, impl.MaxInflows+1))
	}
}

// checkNoInflows checks that all functions of lists of inflows fail.
func checkNoInflows(t *testing.T, inflows []int) {
	t.Helper()
	for _, l := range []level{still(0), running(10)} {
		checkFails(t, "OutsOf", all(impl.OutsOf(example, l, inflows))...)
		checkFails(t, "LevelsOf", all(impl.LevelsOf(example, l, inflows))...)
		checkFails(t, "SpiltOf", all(impl.SpiltOf(example, l, inflows))...)
	}
	checkFails(t, "ChainOuts", all(impl.ChainOuts([]siphon{example}, inflows))...)
	checkFails(t, "ChainOuts", all(impl.ChainOuts([]siphon{example, example}, inflows))...)
}

func TestExampleOfSiphons(t *testing.T) {
	inflows := times(3, 7)
	want := []level{still(0), still(3), still(6), running(5), running(4), running(3), running(2), still(1)}
	if got, ok := impl.LevelsOf(example, still(0), inflows); !same(got, want) || !ok {
		t.Errorf("levels %v, %t", got, ok)
	}
	if got, ok := impl.OutsOf(example, still(0), inflows); !same(got, []int{0, 0, 4, 4, 4, 4, 4}) || !ok {
		t.Errorf("outs %v, %t", got, ok)
	}
	if n, ok := impl.SpiltOf(example, still(0), inflows); n != 0 || !ok {
		t.Errorf("%d spilt, %t", n, ok)
	}
	if n, ok := impl.FirstRun(example, 3); n != 3 || !ok {
		t.Errorf("first run %d, %t", n, ok)
	}
	l := still(0)
	for i := range inflows {
		next, out, spilt, ok := impl.TickSiphon(example, l, 3)
		if wanted := min(max(i-1, 0), 1) * 4; next != want[i+1] || out != wanted || spilt != 0 || !ok {
			t.Errorf("tick %d: %v, %d, %d, %t", i+1, next, out, spilt, ok)
		}
		l = next
	}
}

func TestTickSiphon(t *testing.T) {
	low, full := siphon{Size: 5, Low: 0, Start: 5, Flow: 1}, siphon{Size: 60, Low: 0, Start: 60, Flow: 60}
	narrow, wide := siphon{Size: 6, Low: 2, Start: 3, Flow: 1}, siphon{Size: 4, Low: 1, Start: 4, Flow: 60}
	one, high := siphon{Size: 1, Low: 0, Start: 1, Flow: 1}, siphon{Size: 60, Low: 59, Start: 60, Flow: 60}
	cases := []struct {
		s          siphon
		before     level
		x          int
		behind     level
		out, spilt int
	}{
		{example, still(0), 0, still(0), 0, 0}, {example, still(0), 7, still(7), 0, 0}, {example, still(0), 8, running(4), 4, 0},
		{example, still(0), 10, running(6), 4, 0}, {example, still(0), 11, running(6), 4, 1}, {example, still(0), 60, running(6), 4, 50},
		{example, still(10), 60, running(6), 4, 60}, {example, running(10), 60, running(6), 4, 60}, {example, still(7), 0, still(7), 0, 0}, {example, still(7), 1, running(4), 4, 0},
		// It holds at least Start, but does not run.
		{example, still(8), 0, running(4), 4, 0}, {example, still(9), 0, running(5), 4, 0}, {example, still(10), 0, running(6), 4, 0}, {example, still(8), 3, running(6), 4, 1},
		// It runs, but holds less than Start.
		{example, running(5), 3, running(4), 4, 0}, {example, running(5), 1, running(2), 4, 0}, {example, running(5), 0, still(1), 4, 0}, {example, running(4), 0, still(1), 3, 0}, {example, running(2), 0, still(1), 1, 0},
		// It runs, but holds no more than Low.
		{example, running(1), 0, still(1), 0, 0}, {example, running(0), 0, still(0), 0, 0}, {example, running(0), 1, still(1), 0, 0}, {example, running(0), 2, still(1), 1, 0},
		{example, running(1), 4, still(1), 4, 0}, {example, running(0), 7, running(3), 4, 0}, {example, running(0), 60, running(6), 4, 50},
		{low, still(4), 1, running(4), 1, 0}, {low, running(1), 0, still(0), 1, 0}, {low, running(0), 0, still(0), 0, 0}, {low, still(0), 4, still(4), 0, 0},
		{full, running(60), 60, still(0), 60, 60}, {full, still(0), 60, still(0), 60, 0}, {full, still(0), 59, still(59), 0, 0}, {full, still(59), 60, still(0), 60, 59},
		{narrow, still(2), 1, still(2), 1, 0}, {narrow, still(2), 2, running(3), 1, 0}, {narrow, running(0), 1, still(1), 0, 0},
		{wide, still(3), 5, still(1), 3, 4}, {wide, running(2), 0, still(1), 1, 0},
		{one, still(0), 0, still(0), 0, 0}, {one, still(0), 1, still(0), 1, 0}, {one, still(0), 60, still(0), 1, 59}, {one, running(1), 60, still(0), 1, 60},
		{high, still(59), 1, still(59), 1, 0}, {high, still(60), 60, still(59), 1, 60}, {high, still(59), 0, still(59), 0, 0},
	}
	for _, c := range cases {
		l, out, spilt, ok := impl.TickSiphon(c.s, c.before, c.x)
		if l != c.behind || out != c.out || spilt != c.spilt || !ok {
			t.Errorf("%+v: %v and %d: %v, %d, %d, %t, want %v, %d, %d", c.s, c.before, c.x, l, out, spilt, ok, c.behind, c.out, c.spilt)
		}
	}
}

func TestInflowsOneAfterTheOther(t *testing.T) {
	cases := []struct {
		before  level
		inflows []int
		levels  []level
		outs    []int
		spilt   int
	}{
		{still(0), nil, []level{still(0)}, nil, 0},
		{running(1), []int{}, []level{running(1)}, nil, 0},
		{running(5), []int{0, 0}, []level{running(5), still(1), still(1)}, []int{4, 0}, 0},
		{still(2), []int{5, 0, 60, 0, 0, 0}, []level{still(2), still(7), still(7), running(6), running(2), still(1), still(1)}, []int{0, 0, 4, 4, 1, 0}, 57},
		{running(0), []int{1, 9, 9, 9}, []level{running(0), still(1), running(6), running(6), running(6)}, []int{0, 4, 4, 4}, 10},
		{still(10), []int{60, 60}, []level{still(10), running(6), running(6)}, []int{4, 4}, 116},
	}
	for _, c := range cases {
		if got, ok := impl.LevelsOf(example, c.before, c.inflows); !same(got, c.levels) || !ok {
			t.Errorf("%v and %v: levels %v, %t", c.before, c.inflows, got, ok)
		}
		if got, ok := impl.OutsOf(example, c.before, c.inflows); !same(got, c.outs) || !ok {
			t.Errorf("%v and %v: outs %v, %t", c.before, c.inflows, got, ok)
		}
		if n, ok := impl.SpiltOf(example, c.before, c.inflows); n != c.spilt || !ok {
			t.Errorf("%v and %v: %d spilt, %t", c.before, c.inflows, n, ok)
		}
	}
}

func TestJustMaxInflows(t *testing.T) {
	inflows := times(60, impl.MaxInflows)
	levels, ok := impl.LevelsOf(example, still(0), inflows)
	if len(levels) != 101 || levels[100] != running(6) || !ok {
		t.Errorf("levels %v, %t", levels, ok)
	}
	if outs, ok := impl.OutsOf(example, still(0), inflows); !same(outs, times(4, 100)) || !ok {
		t.Errorf("outs %v, %t", outs, ok)
	}
	if n, ok := impl.SpiltOf(example, still(0), inflows); n != 50+99*56 || !ok {
		t.Errorf("%d spilt, %t", n, ok)
	}
	outs, ok := impl.ChainOuts([]siphon{example, {Size: 60, Low: 0, Start: 4, Flow: 60}}, inflows)
	if !same(outs, [][]int{times(4, 100), times(4, 100)}) || !ok {
		t.Errorf("of a chain: %v, %t", outs, ok)
	}
}

func TestFirstRun(t *testing.T) {
	long, one := siphon{Size: 60, Low: 0, Start: 60, Flow: 1}, siphon{Size: 1, Low: 0, Start: 1, Flow: 60}
	for _, c := range []struct {
		s       siphon
		x, tick int
	}{
		{example, 1, 8}, {example, 2, 4}, {example, 3, 3}, {example, 4, 2}, {example, 7, 2}, {example, 8, 1}, {example, 9, 1}, {example, 60, 1},
		{long, 1, 60}, {long, 7, 9}, {long, 59, 2}, {long, 60, 1}, {one, 1, 1}, {one, 60, 1}, {siphon{Size: 60, Low: 0, Start: 1, Flow: 1}, 1, 1},
	} {
		if n, ok := impl.FirstRun(c.s, c.x); n != c.tick || !ok {
			t.Errorf("%+v and %d: %d, %t, want %d", c.s, c.x, n, ok, c.tick)
		}
	}
	for _, s := range []siphon{example, long, one} {
		checkFails(t, "FirstRun", all(impl.FirstRun(s, 0))...)
	}
}

func TestSteadyInflows(t *testing.T) {
	one := siphon{Size: 1, Low: 0, Start: 1, Flow: 1}
	cases := []struct {
		s             siphon
		x             int
		before, again int
		pulse         []int
		spilt         int
		never         bool
	}{
		{example, 3, 3, 8, []int{4, 4, 4, 4, 0, 0, 4, 4}, 0, false},
		// Without inflow it never runs.
		{example, 0, 0, 1, []int{0}, 0, false}, {one, 0, 0, 1, []int{0}, 0, false},
		{example, 4, 2, 1, []int{4}, 0, true}, {example, 60, 1, 1, []int{4}, 56, true}, {siphon{Size: 5, Low: 0, Start: 5, Flow: 1}, 2, 3, 1, []int{1}, 1, true},
		// It stops once, and then never again.
		{siphon{Size: 10, Low: 3, Start: 4, Flow: 2}, 4, 4, 1, []int{2}, 2, true},
		// It runs in each tick, but stops in each one too.
		{one, 1, 0, 1, []int{1}, 0, false}, {one, 60, 0, 1, []int{1}, 59, false}, {siphon{Size: 6, Low: 2, Start: 3, Flow: 1}, 1, 2, 1, []int{1}, 0, false},
		// More than is above Low does not run out.
		{siphon{Size: 4, Low: 1, Start: 4, Flow: 60}, 3, 2, 1, []int{3}, 0, false}, {siphon{Size: 60, Low: 59, Start: 60, Flow: 60}, 60, 1, 1, []int{1}, 59, false},
		// It runs over in the tick in which it begins to run.
		{siphon{Size: 5, Low: 0, Start: 5, Flow: 5}, 2, 0, 3, []int{0, 0, 5}, 1, false},
		{siphon{Size: 60, Low: 0, Start: 60, Flow: 2}, 1, 0, 118, append(times(0, 59), times(2, 59)...), 0, false},
	}
	for _, c := range cases {
		if before, again, ok := impl.PeriodOfSiphon(c.s, c.x); before != c.before || again != c.again || !ok {
			t.Errorf("%+v and %d: period %d, %d, %t, want %d, %d", c.s, c.x, before, again, ok, c.before, c.again)
		}
		if before, again, ok := impl.PeriodOfChain([]siphon{c.s}, c.x); before != c.before || again != c.again || !ok {
			t.Errorf("%+v and %d: period of the chain %d, %d, %t, want %d, %d", c.s, c.x, before, again, ok, c.before, c.again)
		}
		if got, ok := impl.PulseOf(c.s, c.x); !same(got, c.pulse) || !ok {
			t.Errorf("%+v and %d: pulse %v, %t, want %v", c.s, c.x, got, ok, c.pulse)
		}
		if n, ok := impl.SpiltInPeriod(c.s, c.x); n != c.spilt || !ok {
			t.Errorf("%+v and %d: %d spilt, %t, want %d", c.s, c.x, n, ok, c.spilt)
		}
		if is, ok := impl.NeverStops(c.s, c.x); is != c.never || !ok {
			t.Errorf("%+v and %d: never stops %t, %t", c.s, c.x, is, ok)
		}
	}
}

func TestChainOuts(t *testing.T) {
	small := siphon{Size: 5, Low: 0, Start: 5, Flow: 2}
	inflows := times(3, 7)
	cases := []struct {
		chain   []siphon
		inflows []int
		want    [][]int
	}{
		{[]siphon{example}, inflows, [][]int{{0, 0, 4, 4, 4, 4, 4}}},
		{[]siphon{example, small}, inflows, [][]int{{0, 0, 4, 4, 4, 4, 4}, {0, 0, 0, 2, 2, 2, 2}}},
		{[]siphon{small, example}, inflows, [][]int{{0, 2, 2, 2, 2, 2, 2}, {0, 0, 0, 0, 4, 4, 3}}},
		{[]siphon{example, small, small, example}, inflows, [][]int{{0, 0, 4, 4, 4, 4, 4}, {0, 0, 0, 2, 2, 2, 2}, {0, 0, 0, 0, 0, 2, 2}, {0, 0, 0, 0, 0, 0, 0}}},
		{[]siphon{example}, nil, [][]int{{}}},
		{[]siphon{example, small, small, example}, []int{}, [][]int{{}, {}, {}, {}}},
		{[]siphon{{Size: 1, Low: 0, Start: 1, Flow: 1}, {Size: 60, Low: 0, Start: 2, Flow: 60}}, []int{60, 0, 1, 7}, [][]int{{1, 0, 1, 1}, {0, 0, 2, 0}}},
	}
	for _, c := range cases {
		if got, ok := impl.ChainOuts(c.chain, c.inflows); !same(got, c.want) || !ok {
			t.Errorf("%+v and %v: %v, %t, want %v", c.chain, c.inflows, got, ok, c.want)
		}
	}
}

func TestChainsAreRequired(t *testing.T) {
	five := []siphon{example, example, example, example, example}
	chains := [][]siphon{nil, {}, five}
	for _, s := range noSiphons {
		chains = append(chains, []siphon{s}, []siphon{s, example}, []siphon{example, s}, []siphon{example, example, example, s})
	}
	for _, chain := range chains {
		what := fmt.Sprintf("%+v: ", chain)
		checkFails(t, what+"ChainOuts", all(impl.ChainOuts(chain, nil))...)
		checkFails(t, what+"ChainOuts", all(impl.ChainOuts(chain, []int{3, 3}))...)
		checkFails(t, what+"PeriodOfChain", all(impl.PeriodOfChain(chain, 0))...)
		checkFails(t, what+"PeriodOfChain", all(impl.PeriodOfChain(chain, 3))...)
	}
	if outs, ok := impl.ChainOuts(five[:impl.MaxChain], []int{3}); !same(outs, [][]int{{0}, {0}, {0}, {0}}) || !ok {
		t.Errorf("four: %v, %t", outs, ok)
	}
	if before, again, ok := impl.PeriodOfChain(five[:impl.MaxChain], 4); before != 5 || again != 1 || !ok {
		t.Errorf("four: %d, %d, %t", before, again, ok)
	}
}

func TestPeriodOfChain(t *testing.T) {
	small, one := siphon{Size: 5, Low: 0, Start: 5, Flow: 2}, siphon{Size: 1, Low: 0, Start: 1, Flow: 1}
	for _, c := range []struct {
		chain         []siphon
		x             int
		before, again int
	}{
		{[]siphon{example, small}, 0, 0, 1}, {[]siphon{example, example, example, example}, 0, 0, 1}, {[]siphon{one, one, one, one}, 1, 0, 1}, {[]siphon{one, one, one, one}, 60, 0, 1},
		{[]siphon{{Size: 5, Low: 0, Start: 5, Flow: 5}, {Size: 10, Low: 0, Start: 10, Flow: 10}}, 2, 0, 6},
		{[]siphon{{Size: 5, Low: 1, Start: 5, Flow: 4}, {Size: 8, Low: 0, Start: 8, Flow: 8}}, 2, 3, 4},
		{[]siphon{{Size: 60, Low: 0, Start: 60, Flow: 60}, {Size: 60, Low: 0, Start: 60, Flow: 60}}, 1, 0, 60},
	} {
		if before, again, ok := impl.PeriodOfChain(c.chain, c.x); before != c.before || again != c.again || !ok {
			t.Errorf("%+v and %d: %d, %d, %t, want %d, %d", c.chain, c.x, before, again, ok, c.before, c.again)
		}
	}
}

func TestPeriodOfJust5000(t *testing.T) {
	if before, again, ok := impl.PeriodOfChain(justRound, 1); before != 2536 || again != 2464 || !ok {
		t.Errorf("just: %d, %d, %t", before, again, ok)
	}
	if before, again := roundAgain(justRound, 1); before != 2536 || again != 2464 {
		t.Errorf("just: the second way has %d, %d", before, again)
	}
	if before, again := roundAgain(moreRound, 1); before != 241 || again != 4760 {
		t.Errorf("more: the second way has %d, %d", before, again)
	}
	checkFails(t, "PeriodOfChain", all(impl.PeriodOfChain(moreRound, 1))...)
	if _, _, ok := impl.PeriodOfChain(moreRound[:3], 1); !ok {
		t.Error("the first three: fails")
	}
}

func TestCapacityOf(t *testing.T) {
	for s, want := range map[siphon]int{
		example: 7, {Size: 1, Low: 0, Start: 1, Flow: 60}: 1, {Size: 60, Low: 0, Start: 60, Flow: 1}: 60, {Size: 60, Low: 59, Start: 60, Flow: 1}: 1, {Size: 60, Low: 3, Start: 9, Flow: 1}: 6,
	} {
		if n, ok := impl.CapacityOf(s); n != want || !ok {
			t.Errorf("%+v: %d, %t, want %d", s, n, ok, want)
		}
	}
}
