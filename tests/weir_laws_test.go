package tests

import (
	"math/rand"
	"slices"
	"testing"

	"loop.example/g01208/impl"
)

// rowWork is a second way through ticks of a row: every unit of water comes, spills and runs out alone.
type rowWork struct {
	row    []basin
	spills []int
	given  []int
}

func newRowWork(row []basin) *rowWork {
	return &rowWork{row: slices.Clone(row), spills: times(0, len(row))}
}

// tick lets a flow come. It returns how much spills from each basin.
func (w *rowWork) tick(flow int) []int {
	spilt := times(0, len(w.row))
	coming := flow
	for i := range w.row {
		b := &w.row[i]
		b.Held += coming
		coming = 0
		for b.Held > b.Size {
			b.Held--
			coming++
			spilt[i]++
		}
		for range b.Outlet {
			if b.Held > 0 {
				b.Held--
				coming++
			}
		}
		w.spills[i] += spilt[i]
	}
	w.given = append(w.given, coming)
	return spilt
}

// run lets flows come, one tick after the other.
func (w *rowWork) run(flows []int) {
	for _, flow := range flows {
		w.tick(flow)
	}
}

// heldBy returns what each basin of a row holds.
func heldBy(row []basin) []int {
	held := make([]int, len(row))
	for i, b := range row {
		held[i] = b.Held
	}
	return held
}

// eachRow calls f with all rows of so many basins of at most a size, with outlets up to one more.
func eachRow(count int, size int, f func(row []basin)) {
	row := make([]basin, count)
	var fill func(i int)
	fill = func(i int) {
		if i == count {
			f(slices.Clone(row))
			return
		}
		for full := 1; full <= size; full++ {
			for outlet := range size + 2 {
				for held := range full + 1 {
					row[i] = basinWith(full, outlet, held)
					fill(i + 1)
				}
			}
		}
	}
	fill(0)
}

// someRow returns a row that is drawn, with numbers of at most most; some outlets are 0.
func someRow(r *rand.Rand, most int) []basin {
	row := make([]basin, 1+r.Intn(impl.MaxBasins))
	for i := range row {
		size := 1 + r.Intn(most)
		row[i] = basinWith(size, r.Intn(1+r.Intn(most+1)), r.Intn(size+1))
		if r.Intn(8) == 0 {
			row[i].Outlet = 0
		}
	}
	return row
}

// drawnFlows returns flows that are drawn, none greater than most.
func drawnFlows(r *rand.Rand, most int) []int {
	flows := make([]int, r.Intn(impl.MaxTicks+1))
	for i := range flows {
		flows[i] = r.Intn(most + 1)
	}
	return flows
}

// eachDrawnRun calls f with rows and flows that are drawn, small and great ones.
func eachDrawnRun(count int, f func(r *rand.Rand, row []basin, flows []int)) {
	r := drawn()
	for range count {
		most := []int{3, 9, 100, impl.MaxFlow}[r.Intn(4)]
		f(r, someRow(r, most), drawnFlows(r, 1+r.Intn(most)))
	}
}

func TestTicksOfRowsAgree(t *testing.T) {
	check := func(row []basin, flow int) {
		w := newRowWork(row)
		w.tick(flow)
		after, given, ok := impl.TickRow(row, flow)
		if !same(after, w.row) || given != w.given[0] || !ok {
			t.Fatalf("%v and %d: %v, %d, %t, want %v, %d", row, flow, after, given, ok, w.row, w.given[0])
		}
		if !impl.IsRow(after) || sumOf(heldBy(row))+flow != sumOf(heldBy(after))+given {
			t.Fatalf("%v and %d: %v, %d: water is not kept", row, flow, after, given)
		}
	}
	for count := 1; count <= 2; count++ {
		eachRow(count, 3, func(row []basin) {
			for _, flow := range []int{0, 1, 2, 3, 4, 5, 8, impl.MaxFlow} {
				check(row, flow)
			}
		})
	}
	eachDrawnRun(3000, func(r *rand.Rand, row []basin, flows []int) { check(row, r.Intn(impl.MaxFlow+1)) })
}

// checkRun checks all functions of a row and flows by a second way.
func checkRun(t *testing.T, row []basin, flows []int) {
	t.Helper()
	w := newRowWork(row)
	held := make([][]int, len(row))
	var first []int
	for tick, flow := range flows {
		spilt := w.tick(flow)
		for i, b := range w.row {
			held[i] = append(held[i], b.Held)
			if first == nil && spilt[i] > 0 {
				first = []int{tick, i}
			}
		}
	}
	if given, ok := impl.RunRow(row, flows); !same(given, w.given) || !ok {
		t.Fatalf("%v, %v: given %v, %t, want %v", row, flows, given, ok, w.given)
	}
	if after, ok := impl.RowAfter(row, flows); !same(after, w.row) || !ok {
		t.Fatalf("%v, %v: row %v, %t, want %v", row, flows, after, ok, w.row)
	}
	for i := range row {
		if got, ok := impl.HeldAlong(row, i, flows); !same(got, held[i]) || !ok {
			t.Fatalf("%v, %v: basin %d holds %v, %t, want %v", row, flows, i, got, ok, held[i])
		}
	}
	if spills, ok := impl.SpillsOf(row, flows); !same(spills, w.spills) || !ok {
		t.Fatalf("%v, %v: spills %v, %t, want %v", row, flows, spills, ok, w.spills)
	}
	tick, i, ok := impl.FirstSpill(row, flows)
	if first == nil {
		checkFails(t, "FirstSpill", tick, i, ok)
	} else if tick != first[0] || i != first[1] || !ok {
		t.Fatalf("%v, %v: first spill %d, %d, %t, want %v", row, flows, tick, i, ok, first)
	}
	if peak, ok := impl.PeakOut(row, flows); peak != slices.Max(append(w.given, 0)) || !ok {
		t.Fatalf("%v, %v: peak %d, %t of %v", row, flows, peak, ok, w.given)
	}
}

// checkWaterOfRun checks that a row has given at each time what has come by then but for what it holds more.
func checkWaterOfRun(t *testing.T, row []basin, flows []int) {
	t.Helper()
	first, ok := impl.HeldInRow(row)
	if first != sumOf(heldBy(row)) || !ok {
		t.Fatalf("%v: %d held, %t", row, first, ok)
	}
	totals, ok := impl.RunningTotals(flows)
	if len(totals) != len(flows) || !ok {
		t.Fatalf("%v: totals %v, %t", flows, totals, ok)
	}
	given, _ := impl.RunRow(row, flows)
	for tick := range flows {
		after, _ := impl.RowAfter(row, flows[:tick+1])
		held, _ := impl.HeldInRow(after)
		if totals[tick] != sumOf(flows[:tick+1]) || first+totals[tick] != held+sumOf(given[:tick+1]) {
			t.Fatalf("%v, %v: %d held and %v given behind tick %d, totals %v: water is not kept", row, flows, held, given, tick, totals)
		}
	}
	if is, ok := impl.IsHeldBack(row, flows); !is || !ok {
		t.Fatalf("%v, %v: held back %t, %t", row, flows, is, ok)
	}
}

func TestRunsAgree(t *testing.T) {
	eachRow(1, 3, func(row []basin) {
		for ticks := range 4 {
			eachList(times(0, ticks), times(4, ticks), func(flows []int) { checkRun(t, row, flows) })
		}
	})
	eachRow(2, 3, func(row []basin) {
		for _, flows := range [][]int{{1, 0, 4, 2}, {3, 3, 3, 3, 0, 0, 0}, {9}, {0, 0, 1, 1, 1, 1}} {
			checkRun(t, row, flows)
		}
	})
	eachDrawnRun(2000, func(r *rand.Rand, row []basin, flows []int) { checkRun(t, row, flows) })
}

func TestRowsKeepWater(t *testing.T) {
	eachDrawnRun(500, func(r *rand.Rand, row []basin, flows []int) { checkWaterOfRun(t, row, flows) })
}

// longEnough is more ticks than a row of this kind needs to come to rest: each basin has at most its size to lose or to fill, one unit at a tick, when the one before is at rest.
func longEnough(row []basin) int {
	ticks := 2
	for _, b := range row {
		ticks += b.Size + 1
	}
	return ticks
}

// checkSteadyRow checks what a row comes to with a steady flow by a second way, and that it rests then.
func checkSteadyRow(t *testing.T, row []basin, flow int) {
	t.Helper()
	w := newRowWork(row)
	for range longEnough(row) {
		w.tick(flow)
	}
	want := heldBy(w.row)
	held, ok := impl.SteadyHeld(row, flow)
	if !same(held, want) || !ok {
		t.Fatalf("%v and %d: %v, %t, want %v", row, flow, held, ok, want)
	}
	rest := slices.Clone(row)
	for i := range rest {
		rest[i].Held = held[i]
	}
	if after, given, ok := impl.TickRow(rest, flow); !same(after, rest) || given != flow || !ok {
		t.Fatalf("%v and %d: %v do not rest, but become %v and give %d, %t", row, flow, rest, after, given, ok)
	}
}

// keepsForEver reports whether a basin that holds something, or one behind it, has the outlet 0.
func keepsForEver(row []basin) bool {
	some := false
	for _, b := range row {
		some = some || b.Held > 0
		if some && b.Outlet == 0 {
			return true
		}
	}
	return false
}

// checkEmptying checks when a row is empty by a second way.
func checkEmptying(t *testing.T, row []basin) {
	t.Helper()
	n, ok := impl.TicksToEmpty(row)
	if keepsForEver(row) {
		checkFails(t, "TicksToEmpty", n, ok)
		if held, _ := impl.SteadyHeld(row, 0); sumOf(held) == 0 {
			t.Fatalf("%v: nothing stays", row)
		}
		return
	}
	w := newRowWork(row)
	for sumOf(heldBy(w.row)) > 0 {
		w.tick(0)
	}
	if n != len(w.given) || !ok {
		t.Fatalf("%v: %d ticks, %t, want %d", row, n, ok, len(w.given))
	}
}

func TestRestsAgree(t *testing.T) {
	for count := 1; count <= 2; count++ {
		eachRow(count, 3, func(row []basin) {
			checkEmptying(t, row)
			for flow := range 6 {
				checkSteadyRow(t, row, flow)
			}
		})
	}
	eachDrawnRun(400, func(r *rand.Rand, row []basin, flows []int) {
		checkEmptying(t, row)
		checkSteadyRow(t, row, r.Intn(1+r.Intn(impl.MaxFlow+1)))
		// The flows at which something changes are those that are just as great as an outlet.
		outlet := row[r.Intn(len(row))].Outlet
		for _, flow := range []int{0, outlet, max(outlet-1, 0), min(outlet+1, impl.MaxFlow)} {
			checkSteadyRow(t, row, flow)
		}
	})
}

// spillsWith reports whether the basin i spills with a size.
func spillsWith(row []basin, i int, size int, flows []int) bool {
	changed := slices.Clone(row)
	changed[i].Size = size
	w := newRowWork(changed)
	w.run(flows)
	return w.spills[i] > 0
}

// checkLeastSize checks by a second way that a basin does not spill with its least size, but with the next lesser ones that it may have.
func checkLeastSize(t *testing.T, row []basin, i int, flows []int) {
	t.Helper()
	n, ok := impl.LeastSize(row, i, flows)
	if !ok {
		checkFails(t, "LeastSize", n, ok)
		if !spillsWith(row, i, impl.MaxFlow, flows) {
			t.Fatalf("%v, basin %d, %v: fails, but MaxFlow is enough", row, i, flows)
		}
		return
	}
	low := max(1, row[i].Held)
	if n < low || n > impl.MaxFlow || spillsWith(row, i, n, flows) {
		t.Fatalf("%v, basin %d, %v: %d is not enough", row, i, flows, n)
	}
	for size := max(low, n-20); size < n; size++ {
		if !spillsWith(row, i, size, flows) {
			t.Fatalf("%v, basin %d, %v: %d, but %d is enough", row, i, flows, n, size)
		}
	}
}

func TestLeastSizesJustHold(t *testing.T) {
	eachRow(1, 3, func(row []basin) {
		for ticks := range 4 {
			eachList(times(0, ticks), times(4, ticks), func(flows []int) { checkLeastSize(t, row, 0, flows) })
		}
	})
	eachRow(2, 2, func(row []basin) {
		for _, flows := range [][]int{{1, 0, 4, 2}, {3, 3, 3, 3, 0, 0, 0}, {9}, {0, 0, 1, 1, 1, 1}} {
			checkLeastSize(t, row, 0, flows)
			checkLeastSize(t, row, 1, flows)
		}
	})
	eachDrawnRun(500, func(r *rand.Rand, row []basin, flows []int) {
		for i := range row {
			checkLeastSize(t, row, i, flows)
		}
	})
}

func TestJoinedRowsAreRowsBehindRows(t *testing.T) {
	eachDrawnRun(2000, func(r *rand.Rand, a []basin, flows []int) {
		b := someRow(r, 1+r.Intn(impl.MaxFlow))
		joined, ok := impl.JoinRows(a, b)
		if len(a)+len(b) > impl.MaxBasins {
			checkFails(t, "JoinRows", joined, ok)
			return
		}
		if !same(joined, append(slices.Clone(a), b...)) || !impl.IsRow(joined) || !ok {
			t.Fatalf("%v and %v: %v, %t", a, b, joined, ok)
		}
		between, _ := impl.RunRow(a, flows)
		w := newRowWork(b)
		w.run(between)
		given, _ := impl.RunRow(joined, flows)
		if !same(given, w.given) {
			t.Fatalf("%v and %v, %v: given %v, want %v", a, b, flows, given, w.given)
		}
		after, _ := impl.RowAfter(joined, flows)
		front, _ := impl.RowAfter(a, flows)
		if !same(after, append(front, w.row...)) {
			t.Fatalf("%v and %v, %v: row %v, want %v and %v", a, b, flows, after, front, w.row)
		}
		// Where it is no more than may come in a flow, the calls themselves can be one behind the other.
		if impl.AreFlows(between) {
			if apart, ok := impl.RunRow(b, between); !same(given, apart) || !ok {
				t.Fatalf("%v and %v, %v: given %v, and apart %v, %t", a, b, flows, given, apart, ok)
			}
		}
	})
}
