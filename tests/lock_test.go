package tests

import (
	"fmt"
	"strings"
	"testing"

	"loop.example/g01208/impl"
)

// stairway is the flight of the chapter's example.
func stairway() flight {
	return flightOf("..", 3, 2)
}

// someFlights returns flights of all lengths, with chambers that are all full, all empty, and mixed.
func someFlights() []flight {
	return []flight{
		stairway(), flightOf("##", 3, 2), flightOf("#.", 3, 2), flightOf(".#", 3, 2), flightOf(".", 1), flightOf("#", 1), flightOf(".", 20), flightOf("#", 20),
		flightOf("#.#", 4, 20, 1), flightOf("..##", 5, 5, 5, 5), flightOf("###..", 1, 2, 3, 4, 5), flightOf("......", times(20, 6)...), flightOf("######", times(20, 6)...), flightOf("#.#.#.", 1, 2, 3, 4, 5, 6), flightOf(".####.", 20, 1, 20, 1, 20, 1),
	}
}

// noFlights returns what is no flight: no lock and too many, one value too few and one too many in Full, and lifts that are none in any place.
func noFlights() []flight {
	list := []flight{
		{}, {Lifts: []int{}, Full: []bool{}}, {Full: []bool{true}}, {Full: []bool{false}}, {Lifts: []int{3}}, {Lifts: []int{3, 2}, Full: []bool{}}, {Lifts: []int{}, Full: []bool{false, false}},
		flightOf(".", 3, 2), flightOf("...", 3, 2), flightOf("#", 3, 2), flightOf("###", 3, 2), flightOf("##", 3), flightOf(".....", times(20, 6)...), flightOf(".......", times(20, 6)...), flightOf("#######", times(20, 6)...),
		flightOf(".......", times(1, 7)...), flightOf("#######", times(20, 7)...), flightOf("......", times(1, 7)...), flightOf("........", times(1, 7)...), flightOf(strings.Repeat(".#", 50), times(5, 100)...),
	}
	for _, lift := range noLifts {
		list = append(list, flightOf(".", lift), flightOf("#", lift), flightOf("#.#.#.", times(lift, 6)...), flightOf(".......", times(lift, 7)...))
		for i := range 3 {
			f := flightOf("#.#", 3, 2, 4)
			f.Lifts[i] = lift
			list = append(list, f)
		}
		list = append(list, flightOf("......", 1, 2, 3, 4, 5, lift))
	}
	return append(list, flightOf("..", least, greatest), flightOf("..", 3, -3), flightOf("##", 0, 0))
}

// noLifts are no lifts, and noOneWay no numbers of ships up or down.
var (
	noLifts  = []int{0, -1, 21, -20, least, greatest, least + 1, greatest - 1}
	noOneWay = []int{-1, 11, 40, -10, least, greatest}
)

// someTraffic is traffic of no ship and of as many as there may be, up alone, down alone, and mixed.
var someTraffic = []string{
	"", "u", "d", "ud", "du", "uu", "dd", "uud", "ddu", "udduududdu", strings.Repeat("u", 40), strings.Repeat("d", 40), strings.Repeat("ud", 20), strings.Repeat("du", 20), strings.Repeat("ud", 19) + "u",
}

// noTraffic returns texts that are no traffic: with too many ships, and with any other byte in the first, a middle and the last place.
func noTraffic() []string {
	texts := []string{
		strings.Repeat("u", 41), strings.Repeat("d", 41), strings.Repeat("ud", 21), strings.Repeat("ud", 1000), "up", "down", "UD", "u d", " ud", "ud ", "u,d", "ud\n", "\x00", "\u00fc", "\u0434", "\xff", strings.Repeat("u", 39) + "\u00fc", strings.Repeat("x", 41),
	}
	for b := range 256 {
		other := string([]byte{byte(b)})
		if other != "u" && other != "d" {
			texts = append(texts, other, other+"ud", "u"+other+"d", "ud"+other, other+strings.Repeat("u", 39), strings.Repeat("d", 20)+other+strings.Repeat("u", 19), strings.Repeat("u", 39)+other, strings.Repeat(other, 40))
		}
	}
	return texts
}

func TestExampleOfLocks(t *testing.T) {
	f := stairway()
	up, ok := impl.RunShip(f, true)
	if !same(up, flightOf("##", 3, 2)) || !ok {
		t.Errorf("behind a ship up: %v, %t", up, ok)
	}
	if n, ok := impl.FillingsOf(f, "u"); !same(n, []int{1, 1}) || !ok {
		t.Errorf("a ship up fills %v, %t", n, ok)
	}
	if c, ok := impl.StretchChanges(f, "u"); !same(c, []int{0, -3, -2}) || !ok {
		t.Errorf("changes by a ship up: %v, %t", c, ok)
	}
	if c, ok := impl.StretchChanges(f, "ud"); !same(c, []int{3, -1, -2}) || !ok {
		t.Errorf("changes by a ship down behind it: %v, %t", c, ok)
	}
	if n, ok := impl.WaterUsed(up, "d"); n != 0 || !ok {
		t.Errorf("water used by a ship down that finds both full: %d, %t", n, ok)
	}
	if n, ok := impl.WaterUsed(f, "ud"); n != 2 || !ok {
		t.Errorf("water used by ud: %d, %t", n, ok)
	}
	if n, ok := impl.WaterUsed(f, "uu"); n != 4 || !ok {
		t.Errorf("water used by uu: %d, %t", n, ok)
	}
}

func TestIsFlight(t *testing.T) {
	for _, f := range someFlights() {
		if !impl.IsFlight(f) {
			t.Errorf("%v: no flight", f)
		}
	}
	for lift := -5; lift <= 25; lift++ {
		for i := range impl.MaxLocks {
			f := flightOf(".#.#.#", 1, 20, 3, 2, 7, 1)
			f.Lifts[i] = lift
			if got := impl.IsFlight(f); got != (lift >= 1 && lift <= 20) {
				t.Errorf("%v: %t", f, got)
			}
		}
	}
	for locks := range 10 {
		for chambers := range 10 {
			f := flightOf(strings.Repeat("#", chambers), times(4, locks)...)
			if got := impl.IsFlight(f); got != (locks == chambers && locks >= 1 && locks <= impl.MaxLocks) {
				t.Errorf("%d locks, %d values in Full: %t", locks, chambers, got)
			}
		}
	}
	for _, f := range noFlights() {
		if impl.IsFlight(f) {
			t.Errorf("%v: a flight", f)
		}
	}
}

func TestIsTraffic(t *testing.T) {
	for _, ships := range someTraffic {
		if !impl.IsTraffic(ships) {
			t.Errorf("%q: no traffic", ships)
		}
	}
	for count := range 60 {
		for _, ship := range []string{"u", "d"} {
			if got := impl.IsTraffic(strings.Repeat(ship, count)); got != (count <= impl.MaxShips) {
				t.Errorf("%d ships %s: %t", count, ship, got)
			}
		}
	}
	for _, ships := range noTraffic() {
		if impl.IsTraffic(ships) {
			t.Errorf("%q: traffic", ships)
		}
	}
}

func TestFlightIsRequired(t *testing.T) {
	for _, f := range noFlights() {
		what := fmt.Sprint(f, ": ")
		checkFails(t, what+"WaterInLocks", all(impl.WaterInLocks(f))...)
		checkFails(t, what+"HeightOfFlight", all(impl.HeightOfFlight(f))...)
		checkFails(t, what+"ReverseFlight", all(impl.ReverseFlight(f))...)
		for i := range 2 {
			checkFails(t, what+"PassLock", all(impl.PassLock(f, i, i == 0))...)
			checkFails(t, what+"PassLock", all(impl.PassLock(f, i, i == 1))...)
			checkFails(t, what+"FillLock", all(impl.FillLock(f, i))...)
			checkFails(t, what+"EmptyLock", all(impl.EmptyLock(f, i))...)
			checkFails(t, what+"RunShip", all(impl.RunShip(f, i == 0))...)
			checkFails(t, what+"LeastTraffic", all(impl.LeastTraffic(f, i, i))...)
			checkFails(t, what+"LeastWaterFor", all(impl.LeastWaterFor(f, i, i))...)
			checkFails(t, what+"MostWaterFor", all(impl.MostWaterFor(f, i, i))...)
		}
		for _, ships := range []string{"", "u", "d", "ud"} {
			checkNoTraffic(t, f, ships)
		}
	}
}

// checkNoTraffic checks that all functions of traffic fail.
func checkNoTraffic(t *testing.T, f flight, ships string) {
	t.Helper()
	what := fmt.Sprintf("%v, %q: ", f, ships)
	checkFails(t, what+"RunShips", all(impl.RunShips(f, ships))...)
	checkFails(t, what+"StretchChanges", all(impl.StretchChanges(f, ships))...)
	checkFails(t, what+"WaterUsed", all(impl.WaterUsed(f, ships))...)
	checkFails(t, what+"FillingsOf", all(impl.FillingsOf(f, ships))...)
}

func TestTrafficIsRequired(t *testing.T) {
	for _, f := range []flight{stairway(), flightOf("#", 20), flightOf("#.#.#.", 1, 2, 3, 4, 5, 6)} {
		for _, ships := range noTraffic() {
			checkNoTraffic(t, f, ships)
		}
	}
}

func TestChangesOfOneChamber(t *testing.T) {
	for _, c := range []struct {
		before                  flight
		i                       int
		up, down, filled, empty string // what the chambers are like behind it, or "" if it fails
	}{
		{flightOf(".", 7), 0, "#", ".", "#", ""}, {flightOf("#", 7), 0, "#", ".", "", "."},
		{flightOf("..", 3, 2), 0, "#.", "..", "#.", ""}, {flightOf("..", 3, 2), 1, ".#", "..", ".#", ""},
		{flightOf("##", 3, 2), 0, "##", ".#", "", ".#"}, {flightOf("##", 3, 2), 1, "##", "#.", "", "#."},
		{flightOf("#.", 3, 2), 0, "#.", "..", "", ".."}, {flightOf("#.", 3, 2), 1, "##", "#.", "##", ""},
		{flightOf(".#", 3, 2), 0, "##", ".#", "##", ""}, {flightOf(".#", 3, 2), 1, ".#", "..", "", ".."},
		{flightOf("#.#.#.", 1, 2, 3, 4, 5, 6), 0, "#.#.#.", "..#.#.", "", "..#.#."}, {flightOf("#.#.#.", 1, 2, 3, 4, 5, 6), 3, "#.###.", "#.#.#.", "#.###.", ""},
		{flightOf("#.#.#.", 20, 1, 20, 1, 20, 1), 4, "#.#.#.", "#.#...", "", "#.#..."}, {flightOf("#.#.#.", 20, 1, 20, 1, 20, 1), 5, "#.#.##", "#.#.#.", "#.#.##", ""},
	} {
		for name, tried := range map[string]struct {
			call func() (flight, bool)
			want string
		}{
			"PassLock up":   {func() (flight, bool) { return impl.PassLock(c.before, c.i, true) }, c.up},
			"PassLock down": {func() (flight, bool) { return impl.PassLock(c.before, c.i, false) }, c.down},
			"FillLock":      {func() (flight, bool) { return impl.FillLock(c.before, c.i) }, c.filled},
			"EmptyLock":     {func() (flight, bool) { return impl.EmptyLock(c.before, c.i) }, c.empty},
		} {
			got, ok := tried.call()
			if tried.want == "" {
				checkFails(t, fmt.Sprint(c.before, c.i, ": ", name), got, ok)
			} else if !same(got, flightOf(tried.want, c.before.Lifts...)) || !ok {
				t.Errorf("%v, %d: %s %v, %t, want %s", c.before, c.i, name, got, ok, tried.want)
			}
		}
	}
}

func TestIndexOfLockIsRequired(t *testing.T) {
	for _, f := range someFlights() {
		locks := len(f.Lifts)
		for _, i := range []int{-1, locks, locks + 1, -locks, least, greatest, least + 1, greatest - 1} {
			what := fmt.Sprint(f, i, ": ")
			checkFails(t, what+"PassLock up", all(impl.PassLock(f, i, true))...)
			checkFails(t, what+"PassLock down", all(impl.PassLock(f, i, false))...)
			checkFails(t, what+"FillLock", all(impl.FillLock(f, i))...)
			checkFails(t, what+"EmptyLock", all(impl.EmptyLock(f, i))...)
		}
	}
}

func TestRunShip(t *testing.T) {
	for _, f := range someFlights() {
		locks := len(f.Lifts)
		if got, ok := impl.RunShip(f, true); !same(got, flightOf(strings.Repeat("#", locks), f.Lifts...)) || !ok {
			t.Errorf("%v, up: %v, %t", f, got, ok)
		}
		if got, ok := impl.RunShip(f, false); !same(got, flightOf(strings.Repeat(".", locks), f.Lifts...)) || !ok {
			t.Errorf("%v, down: %v, %t", f, got, ok)
		}
	}
}

// trafficCase is a flight with traffic, and all that it makes of it; behind is what the chambers are like then.
type trafficCase struct {
	flight   flight
	ships    string
	behind   string
	changes  []int
	fillings []int
}

var trafficCases = []trafficCase{
	{flightOf("..", 3, 2), "", "..", []int{0, 0, 0}, []int{0, 0}}, {flightOf("#.", 3, 2), "", "#.", []int{0, 0, 0}, []int{0, 0}}, {flightOf("#", 20), "", "#", []int{0, 0}, []int{0}},
	// Chambers that are all empty at first.
	{flightOf("..", 3, 2), "u", "##", []int{0, -3, -2}, []int{1, 1}}, {flightOf("..", 3, 2), "d", "..", []int{3, -1, -2}, []int{1, 1}}, {flightOf("..", 3, 2), "ud", "..", []int{3, -1, -2}, []int{1, 1}}, {flightOf("..", 3, 2), "uu", "##", []int{3, -4, -4}, []int{2, 2}}, {flightOf("..", 3, 2), "du", "##", []int{3, -4, -4}, []int{2, 2}}, {flightOf("..", 3, 2), "dd", "..", []int{6, -2, -4}, []int{2, 2}}, {flightOf("..", 3, 2), "udud", "..", []int{6, -2, -4}, []int{2, 2}},
	// All full: a ship down uses none.
	{flightOf("##", 3, 2), "u", "##", []int{3, -1, -2}, []int{1, 1}}, {flightOf("##", 3, 2), "d", "..", []int{3, 2, 0}, []int{0, 0}}, {flightOf("##", 3, 2), "ud", "..", []int{6, 1, -2}, []int{1, 1}}, {flightOf("##", 3, 2), "du", "##", []int{3, -1, -2}, []int{1, 1}}, {flightOf("##", 3, 2), "dd", "..", []int{6, 1, -2}, []int{1, 1}},
	// One full and one empty.
	{flightOf("#.", 3, 2), "u", "##", []int{3, -3, -2}, []int{1, 1}}, {flightOf("#.", 3, 2), "d", "..", []int{3, 2, -2}, []int{0, 1}}, {flightOf(".#", 3, 2), "u", "##", []int{0, -1, -2}, []int{1, 1}}, {flightOf(".#", 3, 2), "d", "..", []int{3, -1, 0}, []int{1, 0}},
	// One lock, and as many ships as there may be.
	{flightOf(".", 7), "u", "#", []int{0, -7}, []int{1}}, {flightOf(".", 7), "d", ".", []int{7, -7}, []int{1}}, {flightOf("#", 7), "u", "#", []int{7, -7}, []int{1}}, {flightOf("#", 7), "d", ".", []int{7, 0}, []int{0}},
	{flightOf(".", 7), strings.Repeat("u", 40), "#", []int{273, -280}, []int{40}}, {flightOf("#", 7), strings.Repeat("d", 40), ".", []int{280, -273}, []int{39}}, {flightOf(".", 7), strings.Repeat("ud", 20), ".", []int{140, -140}, []int{20}}, {flightOf(".", 7), strings.Repeat("du", 20), "#", []int{140, -147}, []int{21}},
	// Six locks.
	{flightOf("......", times(20, 6)...), strings.Repeat("u", 40), "######", []int{780, -20, -20, -20, -20, -20, -800}, times(40, 6)}, {flightOf("######", times(20, 6)...), "d", "......", []int{20, 20, 20, 20, 20, 20, 0}, times(0, 6)},
	{flightOf("#.#.#.", 1, 2, 3, 4, 5, 6), "u", "######", []int{1, -1, 1, -3, 1, -5, -6}, times(1, 6)}, {flightOf("#.#.#.", 1, 2, 3, 4, 5, 6), "d", "......", []int{1, 2, 1, 4, 1, 6, -6}, []int{0, 1, 0, 1, 0, 1}},
}

func TestTrafficCases(t *testing.T) {
	for _, c := range trafficCases {
		if got, ok := impl.RunShips(c.flight, c.ships); !same(got, flightOf(c.behind, c.flight.Lifts...)) || !ok {
			t.Errorf("%v, %q: RunShips %v, %t, want %s", c.flight, c.ships, got, ok, c.behind)
		}
		if got, ok := impl.StretchChanges(c.flight, c.ships); !same(got, c.changes) || !ok {
			t.Errorf("%v, %q: StretchChanges %v, %t, want %v", c.flight, c.ships, got, ok, c.changes)
		}
		if got, ok := impl.WaterUsed(c.flight, c.ships); got != -c.changes[len(c.changes)-1] || !ok {
			t.Errorf("%v, %q: WaterUsed %d, %t", c.flight, c.ships, got, ok)
		}
		if got, ok := impl.FillingsOf(c.flight, c.ships); !same(got, c.fillings) || !ok {
			t.Errorf("%v, %q: FillingsOf %v, %t, want %v", c.flight, c.ships, got, ok, c.fillings)
		}
	}
}

func TestWaterAndHeightOfFlights(t *testing.T) {
	for _, c := range []struct {
		flight        flight
		water, height int
	}{
		{flightOf("..", 3, 2), 0, 5}, {flightOf("#.", 3, 2), 3, 5}, {flightOf(".#", 3, 2), 2, 5}, {flightOf("##", 3, 2), 5, 5}, {flightOf(".", 1), 0, 1}, {flightOf("#", 1), 1, 1}, {flightOf("#", 20), 20, 20},
		{flightOf("......", times(20, 6)...), 0, 120}, {flightOf("######", times(20, 6)...), 120, 120}, {flightOf("######", times(1, 6)...), 6, 6}, {flightOf("#.#.#.", 1, 2, 3, 4, 5, 6), 9, 21}, {flightOf(".#.#.#", 1, 2, 3, 4, 5, 6), 12, 21},
	} {
		if got, ok := impl.WaterInLocks(c.flight); got != c.water || !ok {
			t.Errorf("%v: WaterInLocks %d, %t, want %d", c.flight, got, ok, c.water)
		}
		if got, ok := impl.HeightOfFlight(c.flight); got != c.height || !ok {
			t.Errorf("%v: HeightOfFlight %d, %t, want %d", c.flight, got, ok, c.height)
		}
	}
}

// leastCase is a flight with ships up and down, the first text that uses the least water, and the least and the most water.
type leastCase struct {
	flight     flight
	ups, downs int
	ships      string
	less, more int
}

var leastCases = []leastCase{
	// The highest chamber is empty at first.
	{flightOf("..", 3, 2), 0, 0, "", 0, 0}, {flightOf("..", 3, 2), 1, 0, "u", 2, 2}, {flightOf("..", 3, 2), 0, 1, "d", 2, 2}, {flightOf("..", 3, 2), 1, 1, "ud", 2, 4}, {flightOf("..", 3, 2), 2, 0, "uu", 4, 4}, {flightOf("..", 3, 2), 0, 2, "dd", 4, 4},
	{flightOf("..", 3, 2), 2, 1, "udu", 4, 6}, {flightOf("..", 3, 2), 1, 2, "dud", 4, 6}, {flightOf("..", 3, 2), 2, 2, "udud", 4, 8}, {flightOf("..", 3, 2), 3, 1, "uduu", 6, 8}, {flightOf("..", 3, 2), 1, 3, "ddud", 6, 8},
	{flightOf("..", 3, 2), 10, 10, strings.Repeat("ud", 10), 20, 40}, {flightOf("..", 3, 2), 10, 9, strings.Repeat("ud", 9) + "u", 20, 38}, {flightOf("..", 3, 2), 9, 10, "d" + strings.Repeat("ud", 9), 20, 38}, {flightOf("..", 3, 2), 10, 0, strings.Repeat("u", 10), 20, 20}, {flightOf("..", 3, 2), 0, 10, strings.Repeat("d", 10), 20, 20},
	// It is full at first.
	{flightOf("##", 3, 2), 0, 0, "", 0, 0}, {flightOf("##", 3, 2), 1, 0, "u", 2, 2}, {flightOf("##", 3, 2), 0, 1, "d", 0, 0}, {flightOf("##", 3, 2), 1, 1, "du", 2, 2}, {flightOf("##", 3, 2), 2, 0, "uu", 4, 4}, {flightOf("##", 3, 2), 0, 2, "dd", 2, 2},
	{flightOf("##", 3, 2), 2, 1, "duu", 4, 4}, {flightOf("##", 3, 2), 1, 2, "dud", 2, 4}, {flightOf("##", 3, 2), 2, 2, "dudu", 4, 6}, {flightOf("##", 3, 2), 3, 1, "duuu", 6, 6}, {flightOf("##", 3, 2), 1, 3, "ddud", 4, 6},
	{flightOf("##", 3, 2), 10, 10, strings.Repeat("du", 10), 20, 38}, {flightOf("##", 3, 2), 10, 9, strings.Repeat("du", 9) + "u", 20, 36}, {flightOf("##", 3, 2), 9, 10, strings.Repeat("du", 9) + "d", 18, 36}, {flightOf("##", 3, 2), 10, 0, strings.Repeat("u", 10), 20, 20}, {flightOf("##", 3, 2), 0, 10, strings.Repeat("d", 10), 18, 18},
	// The other chambers do not matter, nor do their lifts.
	{flightOf("#.", 20, 2), 1, 1, "ud", 2, 4}, {flightOf(".#", 20, 2), 1, 1, "du", 2, 2}, {flightOf("#", 5), 1, 2, "dud", 5, 10}, {flightOf(".", 5), 1, 2, "dud", 10, 15}, {flightOf("######", 1, 1, 1, 1, 1, 20), 10, 10, strings.Repeat("du", 10), 200, 380}, {flightOf("#####.", 1, 1, 1, 1, 1, 20), 10, 10, strings.Repeat("ud", 10), 200, 400},
}

func TestLeastTraffic(t *testing.T) {
	for _, c := range leastCases {
		if got, ok := impl.LeastTraffic(c.flight, c.ups, c.downs); got != c.ships || !ok {
			t.Errorf("%v, %d up, %d down: LeastTraffic %q, %t, want %q", c.flight, c.ups, c.downs, got, ok, c.ships)
		}
		if got, ok := impl.LeastWaterFor(c.flight, c.ups, c.downs); got != c.less || !ok {
			t.Errorf("%v, %d up, %d down: LeastWaterFor %d, %t, want %d", c.flight, c.ups, c.downs, got, ok, c.less)
		}
		if got, ok := impl.MostWaterFor(c.flight, c.ups, c.downs); got != c.more || !ok {
			t.Errorf("%v, %d up, %d down: MostWaterFor %d, %t, want %d", c.flight, c.ups, c.downs, got, ok, c.more)
		}
	}
	for _, f := range someFlights() {
		for _, bad := range noOneWay {
			for _, count := range append([]int{0, 1, 10}, noOneWay...) {
				for _, ships := range [][2]int{{bad, count}, {count, bad}} {
					what := fmt.Sprint(f, ships, ": ")
					checkFails(t, what+"LeastTraffic", all(impl.LeastTraffic(f, ships[0], ships[1]))...)
					checkFails(t, what+"LeastWaterFor", all(impl.LeastWaterFor(f, ships[0], ships[1]))...)
					checkFails(t, what+"MostWaterFor", all(impl.MostWaterFor(f, ships[0], ships[1]))...)
				}
			}
		}
	}
}

// noBasinsBeside are no numbers of basins beside a lock.
var noBasinsBeside = []int{-1, 21, -2, -20, least, greatest, least + 1, greatest - 1}

func TestSavedShare(t *testing.T) {
	for basins, want := range map[int]ratio{
		0: part(0, 1), 1: part(1, 3), 2: part(1, 2), 3: part(3, 5), 4: part(2, 3), 5: part(5, 7), 6: part(3, 4), 8: part(4, 5), 18: part(9, 10), 19: part(19, 21), 20: part(10, 11),
	} {
		if got, ok := impl.SavedShare(basins); got != want || !ok {
			t.Errorf("%d basins: %v, %t, want %v", basins, got, ok, want)
		}
	}
	for _, basins := range noBasinsBeside {
		checkFails(t, fmt.Sprint(basins, " basins: SavedShare"), all(impl.SavedShare(basins))...)
	}
}

func TestWaterSaved(t *testing.T) {
	for _, c := range []struct {
		lift, basins int
		want         ratio
	}{
		{1, 0, part(0, 1)}, {20, 0, part(0, 1)}, {1, 1, part(1, 3)}, {6, 1, part(2, 1)}, {20, 1, part(20, 3)}, {3, 2, part(3, 2)}, {4, 2, part(2, 1)}, {7, 5, part(5, 1)}, {14, 5, part(10, 1)}, {20, 6, part(15, 1)}, {1, 20, part(10, 11)}, {11, 20, part(10, 1)}, {20, 20, part(200, 11)}, {20, 19, part(380, 21)},
	} {
		if got, ok := impl.WaterSaved(c.lift, c.basins); got != c.want || !ok {
			t.Errorf("lift %d, %d basins: %v, %t, want %v", c.lift, c.basins, got, ok, c.want)
		}
	}
	for _, basins := range append([]int{0, 1, 20}, noBasinsBeside...) {
		for _, lift := range noLifts {
			checkFails(t, fmt.Sprint(lift, basins, ": WaterSaved"), all(impl.WaterSaved(lift, basins))...)
		}
	}
	for _, lift := range []int{1, 2, 20} {
		for _, basins := range noBasinsBeside {
			checkFails(t, fmt.Sprint(lift, basins, ": WaterSaved"), all(impl.WaterSaved(lift, basins))...)
		}
	}
}

func TestReverseFlight(t *testing.T) {
	for _, c := range []struct{ f, want flight }{
		{flightOf(".", 7), flightOf("#", 7)}, {flightOf("#", 7), flightOf(".", 7)}, {flightOf("..", 3, 2), flightOf("##", 2, 3)}, {flightOf("##", 3, 2), flightOf("..", 2, 3)}, {flightOf("#.", 3, 2), flightOf("#.", 2, 3)}, {flightOf(".#", 3, 2), flightOf(".#", 2, 3)},
		{flightOf("#..", 1, 2, 3), flightOf("##.", 3, 2, 1)}, {flightOf(".#.", 1, 2, 1), flightOf("#.#", 1, 2, 1)}, {flightOf("#.#.#.", 1, 2, 3, 4, 5, 6), flightOf("#.#.#.", 6, 5, 4, 3, 2, 1)}, {flightOf("##....", 20, 1, 1, 1, 1, 2), flightOf("####..", 2, 1, 1, 1, 1, 20)},
	} {
		if got, ok := impl.ReverseFlight(c.f); !same(got, c.want) || !ok {
			t.Errorf("%v: %v, %t, want %v", c.f, got, ok, c.want)
		}
	}
}
