package tests

import (
	"math/rand"
	"testing"

	"loop.example/g01208/impl"
)

// dripped is a second way through a tick: every unit of water comes and goes alone.
func dripped(s siphon, l level, x int) (level, int, int) {
	out, spilt := 0, 0
	for range x {
		if l.Held == s.Size {
			spilt++
		} else {
			l.Held++
		}
	}
	if !l.Running && l.Held >= s.Start {
		l.Running = true
	}
	if !l.Running {
		return l, out, spilt
	}
	for range s.Flow {
		if l.Held > s.Low {
			l.Held--
			out++
		}
	}
	if l.Held <= s.Low {
		l.Running = false
	}
	return l, out, spilt
}

// trail is what a steady inflow makes of a siphon, found by comparing the levels behind all ticks with each other.
type trail struct {
	levels        []level
	outs, spills  []int
	before, again int
}

func trailOf(s siphon, x int) trail {
	tr := trail{levels: []level{still(0)}}
	for {
		l, out, spilt := dripped(s, tr.levels[len(tr.levels)-1], x)
		tr.outs, tr.spills = append(tr.outs, out), append(tr.spills, spilt)
		for i, earlier := range tr.levels {
			if earlier == l {
				tr.before, tr.again = i, len(tr.levels)-i
				return tr
			}
		}
		tr.levels = append(tr.levels, l)
	}
}

// chainDripped is a second way through a tick of a chain.
func chainDripped(chain []siphon, now [impl.MaxChain]level, x int) [impl.MaxChain]level {
	for i, s := range chain {
		now[i], x, _ = dripped(s, now[i], x)
	}
	return now
}

// roundAgain is a second way to the period of a chain, however long it is: one walker twice as fast as the other one meets it in the round.
func roundAgain(chain []siphon, x int) (int, int) {
	var slow, fast [impl.MaxChain]level
	for {
		slow = chainDripped(chain, slow, x)
		fast = chainDripped(chain, chainDripped(chain, fast, x), x)
		if slow == fast {
			break
		}
	}
	before := 0
	for slow = [impl.MaxChain]level{}; slow != fast; before++ {
		slow, fast = chainDripped(chain, slow, x), chainDripped(chain, fast, x)
	}
	again := 1
	for fast = chainDripped(chain, fast, x); slow != fast; again++ {
		fast = chainDripped(chain, fast, x)
	}
	return before, again
}

// someSiphon returns a siphon that is drawn.
func someSiphon(r *rand.Rand) siphon {
	size := 1 + r.Intn(impl.MaxSize)
	start := 1 + r.Intn(size)
	return siphon{Size: size, Low: r.Intn(start), Start: start, Flow: 1 + r.Intn(1+r.Intn(impl.MaxSize))}
}

// someInflows returns inflows that are drawn, none greater than most.
func someInflows(r *rand.Rand, most int) []int {
	inflows := make([]int, r.Intn(impl.MaxInflows+1))
	for i := range inflows {
		inflows[i] = r.Intn(most + 1)
	}
	return inflows
}

// drawn returns where draws come from: the same ones in each test.
func drawn() *rand.Rand {
	return rand.New(rand.NewSource(3))
}

func TestTicksAgree(t *testing.T) {
	eachSiphon(6, func(s siphon) {
		for held := range s.Size + 1 {
			for _, l := range []level{still(held), running(held)} {
				for _, x := range []int{0, 1, 2, 3, 4, 5, 6, 7, impl.MaxSize} {
					wantLevel, wantOut, wantSpilt := dripped(s, l, x)
					got, out, spilt, ok := impl.TickSiphon(s, l, x)
					if got != wantLevel || out != wantOut || spilt != wantSpilt || !ok {
						t.Fatalf("%+v: %v and %d: %v, %d, %d, %t, want %v, %d, %d", s, l, x, got, out, spilt, ok, wantLevel, wantOut, wantSpilt)
					}
					if l.Held+x != got.Held+out+spilt {
						t.Fatalf("%+v: %v and %d: %v, %d, %d: water is not kept", s, l, x, got, out, spilt)
					}
					if is, ok := impl.IsSiphonLevel(s, got); !is || !ok {
						t.Fatalf("%+v: %v and %d: %v is no level", s, l, x, got)
					}
				}
			}
		}
	})
}

func TestSiphonsKeepWater(t *testing.T) {
	r := drawn()
	for range 3000 {
		s := someSiphon(r)
		l := level{Held: r.Intn(s.Size + 1), Running: r.Intn(2) == 0}
		inflows := someInflows(r, 1+r.Intn(impl.MaxSize))
		levels, outs, spilt := []level{l}, []int{}, 0
		for i, x := range inflows {
			next, out, over := dripped(s, levels[i], x)
			levels, outs, spilt = append(levels, next), append(outs, out), spilt+over
		}
		gotLevels, ok := impl.LevelsOf(s, l, inflows)
		if !same(gotLevels, levels) || !ok {
			t.Fatalf("%+v, %v, %v: levels %v, %t, want %v", s, l, inflows, gotLevels, ok, levels)
		}
		gotOuts, ok := impl.OutsOf(s, l, inflows)
		if !same(gotOuts, outs) || !ok {
			t.Fatalf("%+v, %v, %v: outs %v, %t, want %v", s, l, inflows, gotOuts, ok, outs)
		}
		gotSpilt, ok := impl.SpiltOf(s, l, inflows)
		if gotSpilt != spilt || !ok {
			t.Fatalf("%+v, %v, %v: %d spilt, %t, want %d", s, l, inflows, gotSpilt, ok, spilt)
		}
		if last := gotLevels[len(inflows)]; l.Held+sumOf(inflows) != last.Held+sumOf(gotOuts)+gotSpilt {
			t.Fatalf("%+v, %v, %v: %v, %v, %d: water is not kept", s, l, inflows, last, gotOuts, gotSpilt)
		}
	}
}

// checkSteady checks all functions of a steady inflow by its trail.
func checkSteady(t *testing.T, s siphon, x int) {
	tr := trailOf(s, x)
	if before, again, ok := impl.PeriodOfSiphon(s, x); before != tr.before || again != tr.again || !ok {
		t.Fatalf("%+v and %d: period %d, %d, %t, want %d, %d", s, x, before, again, ok, tr.before, tr.again)
	}
	if before, again, ok := impl.PeriodOfChain([]siphon{s}, x); before != tr.before || again != tr.again || !ok {
		t.Fatalf("%+v and %d: period of the chain %d, %d, %t, want %d, %d", s, x, before, again, ok, tr.before, tr.again)
	}
	pulse, ok := impl.PulseOf(s, x)
	if !same(pulse, tr.outs[tr.before:]) || !ok {
		t.Fatalf("%+v and %d: pulse %v, %t, want %v", s, x, pulse, ok, tr.outs[tr.before:])
	}
	spilt, ok := impl.SpiltInPeriod(s, x)
	if spilt != sumOf(tr.spills[tr.before:]) || !ok {
		t.Fatalf("%+v and %d: %d spilt, %t, want %d", s, x, spilt, ok, sumOf(tr.spills[tr.before:]))
	}
	if sumOf(pulse) != tr.again*x-spilt {
		t.Fatalf("%+v and %d: pulse %v, %d spilt in %d ticks", s, x, pulse, spilt, tr.again)
	}
	always := true
	for _, l := range tr.levels[tr.before:] {
		always = always && l.Running
	}
	if is, ok := impl.NeverStops(s, x); is != always || !ok || is && x < s.Flow {
		t.Fatalf("%+v and %d: never stops %t, %t, want %t", s, x, is, ok, always)
	}
	first := 0
	for first < len(tr.outs) && tr.outs[first] == 0 {
		first++
	}
	n, ok := impl.FirstRun(s, x)
	if x == 0 {
		checkFails(t, "FirstRun", n, ok)
	} else if n != first+1 || !ok {
		t.Fatalf("%+v and %d: first run %d, %t, want %d", s, x, n, ok, first+1)
	}
}

func TestSteadyInflowsAgree(t *testing.T) {
	eachSiphon(7, func(s siphon) {
		for _, x := range []int{0, 1, 2, 3, 4, 5, 6, 7, 8, impl.MaxSize} {
			checkSteady(t, s, x)
		}
	})
	r := drawn()
	for range 3000 {
		checkSteady(t, someSiphon(r), r.Intn(1+r.Intn(impl.MaxSize+1)))
	}
}

func TestLevelsComeAgain(t *testing.T) {
	r := drawn()
	for range 1000 {
		s, x := someSiphon(r), r.Intn(impl.MaxSize+1)
		before, again, ok := impl.PeriodOfSiphon(s, x)
		if !ok {
			t.Fatalf("%+v and %d: fails", s, x)
		}
		if before+again > impl.MaxInflows {
			continue
		}
		levels, _ := impl.LevelsOf(s, still(0), times(x, impl.MaxInflows))
		for i := range levels {
			for j := range i {
				if comes := j >= before && (i-j)%again == 0; comes != (levels[i] == levels[j]) {
					t.Fatalf("%+v and %d: period %d, %d, but behind %d and %d ticks %v and %v", s, x, before, again, j, i, levels[j], levels[i])
				}
			}
		}
	}
}

func TestChainsAgree(t *testing.T) {
	r := drawn()
	for range 2000 {
		chain := make([]siphon, 1+r.Intn(impl.MaxChain))
		for i := range chain {
			chain[i] = someSiphon(r)
		}
		inflows := someInflows(r, 1+r.Intn(impl.MaxSize))
		want := make([][]int, len(chain))
		var now [impl.MaxChain]level
		for _, x := range inflows {
			for i, s := range chain {
				now[i], x, _ = dripped(s, now[i], x)
				want[i] = append(want[i], x)
			}
		}
		if got, ok := impl.ChainOuts(chain, inflows); !same(got, want) || !ok {
			t.Fatalf("%+v and %v: %v, %t, want %v", chain, inflows, got, ok, want)
		}
		x := r.Intn(1 + r.Intn(impl.MaxSize+1))
		checkRound(t, chain, x)
	}
	for _, chain := range [][]siphon{justRound, moreRound} {
		for count := range chain {
			for _, x := range []int{0, 1, 2, 3, impl.MaxSize} {
				checkRound(t, chain[:count+1], x)
			}
		}
	}
}

// checkRound checks the period of a chain by a second way.
func checkRound(t *testing.T, chain []siphon, x int) {
	t.Helper()
	wantBefore, wantAgain := roundAgain(chain, x)
	before, again, ok := impl.PeriodOfChain(chain, x)
	if wantBefore+wantAgain > 5000 {
		checkFails(t, "PeriodOfChain", before, again, ok)
		return
	}
	if before != wantBefore || again != wantAgain || !ok {
		t.Fatalf("%+v and %d: %d, %d, %t, want %d, %d", chain, x, before, again, ok, wantBefore, wantAgain)
	}
}

func TestCapacityRunsOut(t *testing.T) {
	eachSiphon(8, func(s siphon) {
		capacity, ok := impl.CapacityOf(s)
		if !ok {
			t.Fatalf("%+v: fails", s)
		}
		for held := s.Start; held <= s.Size; held++ {
			outs, _ := impl.OutsOf(s, still(0), append([]int{held}, times(0, s.Size)...))
			levels, _ := impl.LevelsOf(s, still(0), append([]int{held}, times(0, s.Size)...))
			if last := levels[len(levels)-1]; last != still(s.Low) {
				t.Fatalf("%+v from %d on: ends with %v", s, held, last)
			}
			if n := sumOf(outs); n < capacity || held == s.Start && n != capacity {
				t.Fatalf("%+v from %d on: %d run out, the capacity is %d", s, held, n, capacity)
			}
		}
	})
}
