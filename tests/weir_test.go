package tests

import (
	"fmt"
	"slices"
	"testing"

	"loop.example/g01208/impl"
)

// pond is the row of the chapter's example, and rise are its flows.
var (
	pond = []basin{basinWith(5, 2, 0)}
	rise = []int{4, 4, 0, 0}
)

// noBasins are no basins: limits exceeded by one, and numbers of any size in every place.
var noBasins = []basin{
	basinWith(0, 2, 0), basinWith(-1, 2, 0), basinWith(1001, 2, 0), basinWith(least, 2, 0), basinWith(greatest, 2, 0), basinWith(-5, 2, -5),
	basinWith(5, -1, 0), basinWith(5, 1001, 0), basinWith(5, least, 0), basinWith(5, greatest, 0),
	basinWith(5, 2, -1), basinWith(5, 2, 6), basinWith(1, 2, 2), basinWith(1000, 2, 1001), basinWith(5, 2, least), basinWith(5, 2, greatest),
	basinWith(0, 0, 0), basinWith(0, 0, 1), basinWith(least, least, least), basinWith(greatest, greatest, greatest), basinWith(greatest, 2, greatest), basinWith(least, greatest, least),
}

// Numbers that are no flow of a tick.
var noTickFlows = []int{-1, impl.MaxFlow + 1, least, greatest, least + 1, greatest - 1}

// alike returns a row of so many times the same basin.
func alike(b basin, count int) []basin {
	return slices.Repeat([]basin{b}, count)
}

// noRows returns lists that are no rows: too short, too long, and with what is no basin in any place.
func noRows() [][]basin {
	rows := [][]basin{nil, {}, alike(basinWith(5, 2, 0), 7), alike(basinWith(1000, 1000, 1000), 7), alike(basinWith(1, 0, 0), 100)}
	for _, b := range noBasins {
		rows = append(rows, []basin{b}, alike(b, 6))
		for i := range 3 {
			row := []basin{basinWith(5, 2, 5), basinWith(9, 1, 0), basinWith(3, 0, 3)}
			row[i] = b
			rows = append(rows, row)
		}
		rows = append(rows, append(alike(basinWith(5, 2, 1), 5), b))
	}
	return rows
}

// noFlows returns lists that are no flows: too long, and with what is no flow in any place.
func noFlows() [][]int {
	lists := [][]int{times(0, 61), times(impl.MaxFlow, 61), times(4, 1000)}
	for _, x := range noTickFlows {
		lists = append(lists, []int{x}, []int{x, 4, 0}, []int{4, x, 0}, []int{4, 0, x}, append(times(0, 59), x), times(x, 60), times(x, 61))
	}
	return append(lists, []int{least, greatest}, []int{3, -3}, []int{greatest, greatest})
}

// someRows returns rows of all lengths.
func someRows() [][]basin {
	return [][]basin{
		pond, {basinWith(1, 0, 0)}, {basinWith(1, 1000, 1)}, {basinWith(1000, 0, 1000)}, {basinWith(1000, 1000, 0)},
		{basinWith(5, 2, 5), basinWith(4, 1, 0)}, {basinWith(9, 5, 0), basinWith(2, 0, 0)}, {basinWith(5, 2, 4), basinWith(9, 0, 3), basinWith(3, 1, 1)},
		alike(basinWith(7, 3, 2), 4), alike(basinWith(1, 1, 1), 5), alike(basinWith(1000, 1000, 1000), 6), alike(basinWith(1, 0, 0), 6),
	}
}

// someFlows returns flows that are not empty.
func someFlows() [][]int {
	return [][]int{rise, {0}, {impl.MaxFlow}, {2, 2, 2, 2}, {9, 0, 0, 9, 1}, times(0, 60), times(3, 60), times(impl.MaxFlow, 60)}
}

func TestIsRow(t *testing.T) {
	for _, row := range someRows() {
		if !impl.IsRow(row) {
			t.Errorf("%v: no row", row)
		}
	}
	for _, b := range []basin{
		basinWith(1, 0, 0), basinWith(1, 0, 1), basinWith(1, 1000, 0), basinWith(1, 1000, 1), basinWith(1000, 0, 0), basinWith(1000, 0, 1000), basinWith(1000, 1000, 1000), basinWith(5, 1000, 5),
	} {
		for count := 1; count <= impl.MaxBasins; count++ {
			if !impl.IsRow(alike(b, count)) {
				t.Errorf("%d times %v: no row", count, b)
			}
		}
		if impl.IsRow(alike(b, impl.MaxBasins+1)) {
			t.Errorf("%v: a row of seven", b)
		}
	}
	for _, row := range noRows() {
		if impl.IsRow(row) {
			t.Errorf("%v: a row", row)
		}
	}
}

func TestAreFlows(t *testing.T) {
	for _, flows := range append(someFlows(), nil, []int{}, []int{1}, []int{0, impl.MaxFlow, 0}, append(times(0, 59), impl.MaxFlow)) {
		if !impl.AreFlows(flows) {
			t.Errorf("%v: no flows", flows)
		}
	}
	for _, flows := range noFlows() {
		if impl.AreFlows(flows) {
			t.Errorf("%v: flows", flows)
		}
	}
}

// runCase is a row with flows, and all that they make of it. first has the tick and the index of the first spill, or is nil.
type runCase struct {
	row    []basin
	flows  []int
	given  []int
	held   [][]int
	spills []int
	first  []int
}

var runCases = []runCase{
	{pond, rise, []int{2, 3, 2, 1}, [][]int{{2, 3, 1, 0}}, []int{1}, []int{1, 0}},
	// Flows just as great as the outlet leave what is held, once what is too much has spilt.
	{pond, []int{2, 2, 2}, []int{2, 2, 2}, [][]int{{0, 0, 0}}, []int{0}, nil},
	{[]basin{basinWith(5, 2, 3)}, []int{2, 2, 2}, []int{2, 2, 2}, [][]int{{3, 3, 3}}, []int{0}, nil},
	{[]basin{basinWith(5, 2, 4)}, []int{2, 2, 2}, []int{3, 2, 2}, [][]int{{3, 3, 3}}, []int{1}, []int{0, 0}},
	{pond, []int{5, 2, 2}, []int{2, 2, 2}, [][]int{{3, 3, 3}}, []int{0}, nil}, {pond, []int{6, 2, 3}, []int{3, 2, 3}, [][]int{{3, 3, 3}}, []int{2}, []int{0, 0}},
	// Full basins, with and without an outlet.
	{[]basin{basinWith(3, 0, 3)}, []int{1, 0, 5}, []int{1, 0, 5}, [][]int{{3, 3, 3}}, []int{6}, []int{0, 0}},
	{[]basin{basinWith(3, 1, 3)}, []int{0, 0, 0, 0}, []int{1, 1, 1, 0}, [][]int{{2, 1, 0, 0}}, []int{0}, nil},
	{[]basin{basinWith(3, 1, 3)}, []int{0, 2, 2}, []int{1, 2, 2}, [][]int{{2, 2, 2}}, []int{2}, []int{1, 0}},
	{[]basin{basinWith(3, 0, 1)}, []int{2, 0, 1, 0}, []int{0, 0, 1, 0}, [][]int{{3, 3, 3, 3}}, []int{1}, []int{2, 0}},
	// The outlet lets more than the size, and yet no more than what is left behind spilling.
	{[]basin{basinWith(2, 10, 0)}, []int{5, 1, 2, 3}, []int{5, 1, 2, 3}, [][]int{{0, 0, 0, 0}}, []int{4}, []int{0, 0}},
	{[]basin{basinWith(1, 1000, 1)}, []int{0, 1000}, []int{1, 1000}, [][]int{{0, 0}}, []int{999}, []int{1, 0}},
	// Both basins spill and let out at the same tick.
	{[]basin{basinWith(5, 2, 5), basinWith(4, 1, 0)}, []int{3, 0, 0}, []int{2, 2, 1}, [][]int{{3, 1, 0}, {3, 3, 3}}, []int{3, 2}, []int{0, 0}},
	// The first basin keeps all until it is full, and the second one lets through what spills.
	{[]basin{basinWith(3, 0, 0), basinWith(3, 1, 0)}, []int{1, 1, 1, 1, 1}, []int{0, 0, 0, 1, 1}, [][]int{{1, 2, 3, 3, 3}, {0, 0, 0, 0, 0}}, []int{2, 0}, []int{3, 0}},
	// The second basin spills earlier than the first one.
	{[]basin{basinWith(9, 5, 0), basinWith(2, 0, 0)}, []int{4, 4, 20}, []int{2, 4, 16}, [][]int{{0, 0, 4}, {2, 2, 2}}, []int{11, 22}, []int{0, 1}},
	{[]basin{basinWith(9, 1, 9), basinWith(9, 1, 0), basinWith(1, 0, 1)}, []int{0, 9}, []int{1, 1}, [][]int{{8, 8}, {0, 8}, {1, 1}}, []int{8, 0, 2}, []int{0, 2}},
	// Several basins spill first at one tick.
	{alike(basinWith(1, 0, 1), 3), []int{0, 1}, []int{0, 1}, [][]int{{1, 1}, {1, 1}, {1, 1}}, []int{1, 1, 1}, []int{1, 0}},
	{[]basin{basinWith(9, 9, 0), basinWith(1, 0, 0), basinWith(1, 0, 1)}, []int{1, 1}, []int{0, 1}, [][]int{{0, 0}, {1, 1}, {1, 1}}, []int{0, 1, 1}, []int{1, 1}},
	// Behind the first basin more comes at a tick than MaxFlow.
	{alike(basinWith(1000, 1000, 1000), 6), []int{1000, 1000}, []int{7000, 1000}, [][]int{{0, 0}, {0, 0}, {0, 0}, {0, 0}, {0, 0}, {0, 0}}, []int{1000, 2000, 3000, 4000, 5000, 6000}, []int{0, 0}},
	{alike(basinWith(1000, 1000, 1000), 2), []int{0, 1, 0}, []int{2000, 1, 0}, [][]int{{0, 0, 0}, {0, 0, 0}}, []int{0, 1000}, []int{0, 1}},
	{alike(basinWith(1000, 0, 1000), 2), []int{1000, 0, 1}, []int{1000, 0, 1}, [][]int{{1000, 1000, 1000}, {1000, 1000, 1000}}, []int{1001, 1001}, []int{0, 0}},
	// As many flows as there may be.
	{pond, times(0, 60), times(0, 60), [][]int{times(0, 60)}, []int{0}, nil},
	{pond, append(times(0, 59), 6), append(times(0, 59), 3), [][]int{append(times(0, 59), 3)}, []int{1}, []int{59, 0}},
	{[]basin{basinWith(1, 0, 0)}, times(1000, 60), append([]int{999}, times(1000, 59)...), [][]int{times(1, 60)}, []int{59999}, []int{0, 0}},
	{[]basin{basinWith(1000, 999, 0)}, times(1000, 60), append([]int{999}, times(1000, 59)...), [][]int{times(1, 60)}, []int{59}, []int{1, 0}},
}

// rowBehind returns the row that holds what a case tells behind so many ticks.
func (c runCase) rowBehind(ticks int) []basin {
	row := slices.Clone(c.row)
	for i := range row {
		if ticks > 0 {
			row[i].Held = c.held[i][ticks-1]
		}
	}
	return row
}

func TestRuns(t *testing.T) {
	for _, c := range runCases {
		if given, ok := impl.RunRow(c.row, c.flows); !same(given, c.given) || !ok {
			t.Errorf("%v, %v: given %v, %t, want %v", c.row, c.flows, given, ok, c.given)
		}
		if row, ok := impl.RowAfter(c.row, c.flows); !same(row, c.rowBehind(len(c.flows))) || !ok {
			t.Errorf("%v, %v: row %v, %t", c.row, c.flows, row, ok)
		}
		for i, want := range c.held {
			if held, ok := impl.HeldAlong(c.row, i, c.flows); !same(held, want) || !ok {
				t.Errorf("%v, %v: basin %d holds %v, %t, want %v", c.row, c.flows, i, held, ok, want)
			}
		}
		if spills, ok := impl.SpillsOf(c.row, c.flows); !same(spills, c.spills) || !ok {
			t.Errorf("%v, %v: spills %v, %t, want %v", c.row, c.flows, spills, ok, c.spills)
		}
		if peak, ok := impl.PeakOut(c.row, c.flows); peak != slices.Max(c.given) || !ok {
			t.Errorf("%v, %v: peak %d, %t", c.row, c.flows, peak, ok)
		}
		if is, ok := impl.IsHeldBack(c.row, c.flows); !is || !ok {
			t.Errorf("%v, %v: held back %t, %t", c.row, c.flows, is, ok)
		}
	}
}

func TestTicksOfRows(t *testing.T) {
	for _, c := range runCases {
		for tick, flow := range c.flows {
			row, given, ok := impl.TickRow(c.rowBehind(tick), flow)
			if !same(row, c.rowBehind(tick+1)) || given != c.given[tick] || !ok {
				t.Errorf("%v and %d: %v, %d, %t, want %v, %d", c.rowBehind(tick), flow, row, given, ok, c.rowBehind(tick+1), c.given[tick])
			}
		}
	}
}

func TestFirstSpill(t *testing.T) {
	for _, c := range runCases {
		tick, i, ok := impl.FirstSpill(c.row, c.flows)
		if c.first == nil {
			checkFails(t, fmt.Sprint(c.row, c.flows, ": FirstSpill"), tick, i, ok)
		} else if tick != c.first[0] || i != c.first[1] || !ok {
			t.Errorf("%v, %v: first spill %d, %d, %t, want %v", c.row, c.flows, tick, i, ok, c.first)
		}
	}
}

func TestNoFlows(t *testing.T) {
	for _, flows := range [][]int{nil, {}, rise[:0]} {
		for _, row := range someRows() {
			what := fmt.Sprint(row, ": ")
			if given, ok := impl.RunRow(row, flows); len(given) != 0 || !ok {
				t.Errorf("%sgiven %v, %t", what, given, ok)
			}
			if after, ok := impl.RowAfter(row, flows); !same(after, row) || !ok {
				t.Errorf("%srow %v, %t", what, after, ok)
			}
			if spills, ok := impl.SpillsOf(row, flows); !same(spills, times(0, len(row))) || !ok {
				t.Errorf("%sspills %v, %t", what, spills, ok)
			}
			checkFails(t, what+"FirstSpill", all(impl.FirstSpill(row, flows))...)
			if peak, ok := impl.PeakOut(row, flows); peak != 0 || !ok {
				t.Errorf("%speak %d, %t", what, peak, ok)
			}
			if is, ok := impl.IsHeldBack(row, flows); !is || !ok {
				t.Errorf("%sheld back %t, %t", what, is, ok)
			}
			for i, b := range row {
				if held, ok := impl.HeldAlong(row, i, flows); len(held) != 0 || !ok {
					t.Errorf("%sbasin %d holds %v, %t", what, i, held, ok)
				}
				if n, ok := impl.LeastSize(row, i, flows); n != max(1, b.Held) || !ok {
					t.Errorf("%sleast size of basin %d: %d, %t", what, i, n, ok)
				}
			}
		}
		if totals, ok := impl.RunningTotals(flows); len(totals) != 0 || !ok {
			t.Errorf("totals %v, %t", totals, ok)
		}
	}
}

func TestHeldInRow(t *testing.T) {
	for _, c := range []struct {
		row  []basin
		want int
	}{
		{pond, 0}, {[]basin{basinWith(5, 2, 5)}, 5}, {[]basin{basinWith(5, 2, 4), basinWith(9, 0, 3), basinWith(3, 1, 1)}, 8}, {alike(basinWith(7, 3, 2), 4), 8}, {alike(basinWith(1000, 0, 1000), 6), 6000}, {alike(basinWith(1, 0, 0), 6), 0},
	} {
		if n, ok := impl.HeldInRow(c.row); n != c.want || !ok {
			t.Errorf("%v: %d, %t, want %d", c.row, n, ok, c.want)
		}
	}
}

func TestTicksToEmpty(t *testing.T) {
	for _, c := range []struct {
		row  []basin
		want int
	}{
		{[]basin{basinWith(5, 2, 5)}, 3}, {[]basin{basinWith(5, 2, 4)}, 2}, {[]basin{basinWith(5, 5, 5)}, 1}, {[]basin{basinWith(5, 1000, 5)}, 1}, {[]basin{basinWith(5, 4, 5)}, 2}, {[]basin{basinWith(1000, 1, 1000)}, 1000},
		// Nothing is held.
		{pond, 0}, {[]basin{basinWith(5, 0, 0)}, 0}, {alike(basinWith(5, 0, 0), 6), 0}, {[]basin{basinWith(5, 2, 0), basinWith(5, 0, 0)}, 0},
		// The outlet 0 ahead of all that is held keeps nothing.
		{[]basin{basinWith(5, 0, 0), basinWith(5, 2, 5)}, 3}, {[]basin{basinWith(5, 0, 0), basinWith(5, 2, 1), basinWith(5, 1, 0)}, 1}, {append(alike(basinWith(5, 0, 0), 5), basinWith(5, 1, 5)), 5},
		{[]basin{basinWith(5, 2, 4), basinWith(5, 2, 0)}, 2}, {[]basin{basinWith(5, 2, 4), basinWith(5, 1, 0)}, 4}, {[]basin{basinWith(5, 2, 4), basinWith(1, 1, 0)}, 2}, {[]basin{basinWith(5, 1, 3), basinWith(5, 5, 5)}, 3},
		{alike(basinWith(1000, 1000, 1000), 6), 1}, {alike(basinWith(1000, 1, 1000), 6), 5995},
	} {
		if n, ok := impl.TicksToEmpty(c.row); n != c.want || !ok {
			t.Errorf("%v: %d ticks, %t, want %d", c.row, n, ok, c.want)
		}
	}
}

func TestRowsThatNeverEmpty(t *testing.T) {
	for _, row := range [][]basin{
		{basinWith(5, 0, 1)}, {basinWith(5, 0, 5)}, {basinWith(1, 0, 1)}, {basinWith(1000, 0, 1000)},
		{basinWith(5, 0, 1), basinWith(5, 2, 0)}, {basinWith(5, 2, 0), basinWith(5, 0, 1)}, {basinWith(5, 2, 0), basinWith(5, 0, 1), basinWith(5, 2, 0)}, {basinWith(5, 2, 5), basinWith(5, 0, 1), basinWith(5, 2, 5)},
		// What holds something empties, and a basin behind it keeps it.
		{basinWith(5, 2, 1), basinWith(5, 0, 0)}, {basinWith(5, 2, 1), basinWith(5, 1, 0), basinWith(5, 0, 0)}, {basinWith(5, 2, 5), basinWith(1, 0, 0), basinWith(9, 9, 0)}, {basinWith(5, 1, 1), basinWith(5, 0, 5)},
		append([]basin{basinWith(1000, 1, 1000)}, alike(basinWith(5, 0, 0), 5)...), append(alike(basinWith(5, 1, 1), 5), basinWith(1000, 0, 0)), alike(basinWith(1000, 0, 1000), 6),
	} {
		checkFails(t, fmt.Sprint(row, ": TicksToEmpty"), all(impl.TicksToEmpty(row))...)
	}
}

func TestSteadyHeld(t *testing.T) {
	for _, c := range []struct {
		row  []basin
		flow int
		want []int
	}{
		// Without flow, with and without water that stays.
		{pond, 0, []int{0}}, {[]basin{basinWith(5, 2, 5)}, 0, []int{0}}, {[]basin{basinWith(5, 0, 4)}, 0, []int{4}}, {[]basin{basinWith(5, 0, 0)}, 0, []int{0}}, {[]basin{basinWith(5, 0, 4), basinWith(5, 2, 5)}, 0, []int{4, 0}},
		{[]basin{basinWith(5, 2, 5), basinWith(5, 0, 0)}, 0, []int{0, 5}}, {[]basin{basinWith(5, 2, 4), basinWith(9, 0, 3)}, 0, []int{0, 7}}, {[]basin{basinWith(5, 2, 5), basinWith(3, 0, 2), basinWith(9, 0, 1)}, 0, []int{0, 3, 5}},
		// Less than the outlet.
		{pond, 1, []int{0}}, {[]basin{basinWith(5, 2, 5)}, 1, []int{0}}, {[]basin{basinWith(5, 7, 5)}, 6, []int{0}}, {[]basin{basinWith(1000, 1000, 1000)}, 999, []int{0}},
		// As much as the outlet: what does not spill at first stays.
		{pond, 2, []int{0}}, {[]basin{basinWith(5, 2, 1)}, 2, []int{1}}, {[]basin{basinWith(5, 2, 3)}, 2, []int{3}}, {[]basin{basinWith(5, 2, 4)}, 2, []int{3}}, {[]basin{basinWith(5, 5, 2)}, 5, []int{0}}, {[]basin{basinWith(5, 7, 5)}, 7, []int{0}}, {[]basin{basinWith(1000, 1000, 1000)}, 1000, []int{0}},
		{[]basin{basinWith(5, 3, 0), basinWith(9, 2, 0)}, 2, []int{0, 0}}, {[]basin{basinWith(5, 3, 5), basinWith(9, 2, 0)}, 2, []int{0, 5}}, {[]basin{basinWith(5, 3, 5), basinWith(5, 2, 0)}, 2, []int{0, 3}},
		// More than the outlet.
		{pond, 3, []int{3}}, {[]basin{basinWith(5, 2, 5)}, 3, []int{3}}, {pond, 1000, []int{3}}, {[]basin{basinWith(5, 0, 4)}, 1, []int{5}}, {[]basin{basinWith(5, 0, 5)}, 1000, []int{5}}, {[]basin{basinWith(5, 7, 3)}, 8, []int{0}},
		{[]basin{basinWith(5, 2, 0), basinWith(9, 4, 9), basinWith(3, 3, 1)}, 4, []int{3, 4, 0}}, {alike(basinWith(1000, 0, 0), 6), 1, times(1000, 6)}, {alike(basinWith(1, 0, 0), 6), 1, times(1, 6)},
		{[]basin{basinWith(1000, 1000, 0)}, 1000, []int{0}}, {[]basin{basinWith(1000, 999, 0)}, 1000, []int{1}}, {[]basin{basinWith(1000, 999, 1000)}, 1000, []int{1}}, {alike(basinWith(1000, 1, 0), 6), 1000, times(999, 6)}, {alike(basinWith(1000, 1, 1000), 6), 1000, times(999, 6)},
		{alike(basinWith(1000, 999, 0), 6), 1000, times(1, 6)}, {alike(basinWith(1000, 2, 0), 6), 3, times(998, 6)},
	} {
		if held, ok := impl.SteadyHeld(c.row, c.flow); !same(held, c.want) || !ok {
			t.Errorf("%v and %d: %v, %t, want %v", c.row, c.flow, held, ok, c.want)
		}
	}
}

func TestLeastSize(t *testing.T) {
	for _, c := range []struct {
		row   []basin
		i     int
		flows []int
		want  int
	}{
		{pond, 0, rise, 6}, {[]basin{basinWith(9, 2, 0)}, 0, rise, 6}, {[]basin{basinWith(6, 2, 0)}, 0, rise, 6}, {[]basin{basinWith(1, 2, 0)}, 0, rise, 6},
		// What is held is enough.
		{[]basin{basinWith(5, 5, 4)}, 0, []int{0}, 4}, {[]basin{basinWith(9, 9, 7)}, 0, []int{0, 3, 7}, 7}, {[]basin{basinWith(9, 9, 7)}, 0, []int{0, 8}, 8}, {[]basin{basinWith(5, 0, 5)}, 0, times(0, 60), 5}, {[]basin{basinWith(5, 2, 3)}, 0, []int{1}, 4},
		// A basin has at least the size 1.
		{pond, 0, []int{0, 0}, 1}, {pond, 0, []int{1, 1}, 1}, {[]basin{basinWith(5, 0, 0)}, 0, times(0, 60), 1}, {[]basin{basinWith(1000, 1, 0)}, 0, times(1, 60), 1}, {[]basin{basinWith(5, 2, 1)}, 0, []int{0}, 1}, {[]basin{basinWith(5, 0, 0), basinWith(5, 2, 0)}, 1, []int{5}, 1},
		// MaxFlow is just enough.
		{pond, 0, []int{1000}, 1000}, {[]basin{basinWith(5, 0, 0)}, 0, []int{500, 500}, 1000}, {[]basin{basinWith(5, 1, 0)}, 0, []int{500, 501}, 1000}, {[]basin{basinWith(1000, 0, 1000)}, 0, []int{0}, 1000}, {[]basin{basinWith(1000, 1000, 0)}, 0, times(1000, 60), 1000}, {[]basin{basinWith(1000, 1000, 1000), basinWith(1000, 1000, 0)}, 1, []int{0, 0}, 1000},
		// A basin ahead of it spills.
		{[]basin{basinWith(5, 2, 0), basinWith(3, 1, 0)}, 0, []int{9}, 9}, {[]basin{basinWith(5, 2, 0), basinWith(3, 1, 0)}, 1, []int{9}, 6}, {[]basin{basinWith(5, 2, 0), basinWith(3, 1, 0)}, 1, []int{9, 0}, 7}, {[]basin{basinWith(5, 2, 0), basinWith(3, 1, 0)}, 1, []int{9, 0, 0, 0}, 7},
		{[]basin{basinWith(1, 0, 1), basinWith(1, 0, 1), basinWith(1, 0, 0)}, 2, times(1, 60), 60}, {[]basin{basinWith(1, 0, 0), basinWith(7, 0, 0)}, 1, []int{600, 401}, 1000},
		// What is behind it does not matter.
		{[]basin{basinWith(5, 2, 0), basinWith(1, 0, 1)}, 0, rise, 6}, {[]basin{basinWith(9, 9, 0), basinWith(5, 2, 0), basinWith(1, 0, 1)}, 1, rise, 6},
	} {
		if n, ok := impl.LeastSize(c.row, c.i, c.flows); n != c.want || !ok {
			t.Errorf("%v, basin %d, %v: %d, %t, want %d", c.row, c.i, c.flows, n, ok, c.want)
		}
	}
}

func TestNoSizeIsEnough(t *testing.T) {
	for _, c := range []struct {
		row   []basin
		i     int
		flows []int
	}{
		{[]basin{basinWith(5, 0, 0)}, 0, []int{500, 501}}, {[]basin{basinWith(5, 1, 0)}, 0, []int{500, 502}}, {[]basin{basinWith(1000, 0, 1000)}, 0, []int{1}}, {[]basin{basinWith(1000, 1000, 1)}, 0, []int{1000}}, {[]basin{basinWith(1000, 999, 0)}, 0, times(1000, 60)}, {[]basin{basinWith(5, 0, 0)}, 0, times(17, 60)},
		{[]basin{basinWith(5, 2, 0), basinWith(1000, 0, 999)}, 1, []int{0, 3, 0}}, {[]basin{basinWith(1, 0, 0), basinWith(7, 0, 0)}, 1, []int{600, 402}},
		// More comes at once than there may be in a flow.
		{alike(basinWith(1000, 1000, 1000), 2), 1, []int{0}}, {[]basin{basinWith(1000, 1000, 1000), basinWith(1000, 1000, 0)}, 1, []int{1}}, {alike(basinWith(1000, 1000, 1000), 6), 5, []int{1000}},
	} {
		checkFails(t, fmt.Sprint(c.row, c.i, c.flows, ": LeastSize"), all(impl.LeastSize(c.row, c.i, c.flows))...)
	}
}

func TestJoinRows(t *testing.T) {
	a, b := []basin{basinWith(5, 2, 5), basinWith(4, 1, 0)}, []basin{basinWith(9, 5, 3)}
	for _, c := range []struct {
		a, b []basin
		want []basin
	}{
		{a, b, []basin{basinWith(5, 2, 5), basinWith(4, 1, 0), basinWith(9, 5, 3)}}, {b, a, []basin{basinWith(9, 5, 3), basinWith(5, 2, 5), basinWith(4, 1, 0)}}, {b, b, []basin{basinWith(9, 5, 3), basinWith(9, 5, 3)}}, {pond, alike(basinWith(1, 0, 1), 3), append(slices.Clone(pond), alike(basinWith(1, 0, 1), 3)...)},
		// Just as many basins as there may be.
		{alike(basinWith(1, 0, 1), 3), alike(basinWith(1, 0, 0), 3), append(alike(basinWith(1, 0, 1), 3), alike(basinWith(1, 0, 0), 3)...)}, {alike(basinWith(7, 3, 2), 5), pond, append(alike(basinWith(7, 3, 2), 5), pond...)}, {pond, alike(basinWith(7, 3, 2), 5), append(slices.Clone(pond), alike(basinWith(7, 3, 2), 5)...)},
	} {
		if row, ok := impl.JoinRows(c.a, c.b); !same(row, c.want) || !ok {
			t.Errorf("%v and %v: %v, %t, want %v", c.a, c.b, row, ok, c.want)
		}
	}
	for count := 1; count <= 6; count++ {
		checkFails(t, fmt.Sprint("JoinRows of ", count), all(impl.JoinRows(alike(basinWith(7, 3, 2), count), alike(basinWith(1, 0, 1), 7-count)))...)
	}
	checkFails(t, "JoinRows of 6 and 6", all(impl.JoinRows(alike(basinWith(7, 3, 2), 6), alike(basinWith(7, 3, 2), 6)))...)
}

func TestRunningTotals(t *testing.T) {
	var most []int
	for tick := range 60 {
		most = append(most, 1000*(tick+1))
	}
	for _, c := range []struct {
		flows, want []int
	}{
		{rise, []int{4, 8, 8, 8}}, {[]int{0}, []int{0}}, {[]int{1000}, []int{1000}}, {[]int{0, 1, 0, 7}, []int{0, 1, 1, 8}}, {times(0, 60), times(0, 60)}, {times(1000, 60), most},
	} {
		if totals, ok := impl.RunningTotals(c.flows); !same(totals, c.want) || !ok {
			t.Errorf("%v: %v, %t, want %v", c.flows, totals, ok, c.want)
		}
	}
}

// checkNoRun checks that all functions of a row, an index and flows fail.
func checkNoRun(t *testing.T, row []basin, i int, flows []int) {
	t.Helper()
	what := fmt.Sprint(row, i, flows, ": ")
	checkFails(t, what+"RunRow", all(impl.RunRow(row, flows))...)
	checkFails(t, what+"RowAfter", all(impl.RowAfter(row, flows))...)
	checkFails(t, what+"SpillsOf", all(impl.SpillsOf(row, flows))...)
	checkFails(t, what+"FirstSpill", all(impl.FirstSpill(row, flows))...)
	checkFails(t, what+"PeakOut", all(impl.PeakOut(row, flows))...)
	checkFails(t, what+"IsHeldBack", all(impl.IsHeldBack(row, flows))...)
	checkNoBasin(t, row, i, flows)
}

// checkNoBasin checks that both functions of one basin fail.
func checkNoBasin(t *testing.T, row []basin, i int, flows []int) {
	t.Helper()
	what := fmt.Sprint(row, i, flows, ": ")
	checkFails(t, what+"HeldAlong", all(impl.HeldAlong(row, i, flows))...)
	checkFails(t, what+"LeastSize", all(impl.LeastSize(row, i, flows))...)
}

func TestRowsAreRequired(t *testing.T) {
	for _, row := range noRows() {
		what := fmt.Sprint(row, ": ")
		for _, flows := range append(someFlows(), nil, []int{}) {
			for _, i := range []int{-1, 0, len(row) - 1, len(row)} {
				checkNoRun(t, row, i, flows)
			}
		}
		for _, flow := range []int{-1, 0, 3, impl.MaxFlow} {
			checkFails(t, what+"TickRow", all(impl.TickRow(row, flow))...)
			checkFails(t, what+"SteadyHeld", all(impl.SteadyHeld(row, flow))...)
		}
		checkFails(t, what+"HeldInRow", all(impl.HeldInRow(row))...)
		checkFails(t, what+"TicksToEmpty", all(impl.TicksToEmpty(row))...)
		checkFails(t, what+"JoinRows", all(impl.JoinRows(row, pond))...)
		checkFails(t, what+"JoinRows", all(impl.JoinRows(pond, row))...)
		checkFails(t, what+"JoinRows", all(impl.JoinRows(row, row))...)
	}
}

func TestFlowsAreRequired(t *testing.T) {
	for _, flows := range noFlows() {
		for _, row := range append(someRows(), nil, alike(basinWith(5, 2, 0), 7)) {
			for _, i := range []int{-1, 0, len(row) - 1, len(row)} {
				checkNoRun(t, row, i, flows)
			}
		}
		checkFails(t, fmt.Sprint(flows, ": RunningTotals"), all(impl.RunningTotals(flows))...)
	}
	for _, flow := range noTickFlows {
		for _, row := range someRows() {
			checkFails(t, fmt.Sprint(row, flow, ": TickRow"), all(impl.TickRow(row, flow))...)
			checkFails(t, fmt.Sprint(row, flow, ": SteadyHeld"), all(impl.SteadyHeld(row, flow))...)
		}
	}
}

func TestIndicesOfBasinsAreRequired(t *testing.T) {
	for _, row := range someRows() {
		for _, flows := range append(someFlows(), nil, []int{}) {
			for _, i := range []int{-1, len(row), len(row) + 1, -len(row), least, greatest} {
				checkNoBasin(t, row, i, flows)
			}
			for _, i := range []int{0, len(row) - 1} {
				if held, ok := impl.HeldAlong(row, i, flows); len(held) != len(flows) || !ok {
					t.Errorf("%v, %v: basin %d holds %v, %t", row, flows, i, held, ok)
				}
			}
		}
	}
}

func TestLimitsOfTicks(t *testing.T) {
	for _, row := range [][]basin{{basinWith(1000, 1000, 0)}, alike(basinWith(1000, 1000, 0), 6)} {
		for _, flow := range []int{0, impl.MaxFlow} {
			after, given, ok := impl.TickRow(row, flow)
			if !same(after, row) || given != flow || !ok {
				t.Errorf("%v and %d: %v, %d, %t", row, flow, after, given, ok)
			}
			if held, ok := impl.SteadyHeld(row, flow); !same(held, times(0, len(row))) || !ok {
				t.Errorf("%v and %d: %v, %t", row, flow, held, ok)
			}
		}
	}
}
