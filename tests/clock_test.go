package tests

import (
	"fmt"
	"slices"
	"strings"
	"testing"

	"loop.example/g01208/impl"
)

// bowl, mill and balance are the clock, the wheel and the scale of the chapter's example.
var (
	bowl    = clockWith(10, 4)
	mill    = wheelWith(4, 5, 2)
	balance = scaleWith(3, 1, 4)
)

// Clocks, wheels and scales at their limits and between them.
var (
	someClocks = []clock{
		bowl, clockWith(0, 1), clockWith(0, 100), clockWith(1, 1), clockWith(1, 100), clockWith(1000, 1), clockWith(1000, 2), clockWith(1000, 100), clockWith(999, 99), clockWith(24, 100), clockWith(23, 100), clockWith(100, 50),
	}
	someWheels = []scoops{
		mill, wheelWith(2, 1, 1), wheelWith(2, 60, 60), wheelWith(60, 60, 1), wheelWith(60, 1, 60), wheelWith(2, 60, 59), wheelWith(2, 59, 60), wheelWith(19, 1, 1), wheelWith(20, 3, 3), wheelWith(7, 12, 4), wheelWith(7, 13, 4), wheelWith(7, 11, 4),
	}
	someScales = []scale{
		balance, scaleWith(1, 3, 4), scaleWith(0, 0, 1), scaleWith(0, 0, 1000), scaleWith(60, 60, 1), scaleWith(60, 60, 1000), scaleWith(60, 0, 1), scaleWith(0, 60, 1000), scaleWith(1, 0, 1000), scaleWith(59, 60, 1), scaleWith(5, 2, 4), scaleWith(60, 1, 1000),
	}
)

// Values that are no clock, no wheel and no scale: each limit exceeded by one, and numbers of any size in every place.
var (
	noClocks = []clock{
		{}, clockWith(-1, 4), clockWith(1001, 4), clockWith(10, 0), clockWith(10, 101), clockWith(10, -1), clockWith(10, -4), clockWith(0, 0), clockWith(-1, 0), clockWith(1001, 101), clockWith(-10, -4),
		clockWith(least, 4), clockWith(greatest, 4), clockWith(10, least), clockWith(10, greatest), clockWith(least, least), clockWith(greatest, greatest), clockWith(least, greatest), clockWith(greatest, least), clockWith(greatest, 1), clockWith(least, -1),
	}
	noWheels = []scoops{
		{}, wheelWith(1, 5, 2), wheelWith(61, 5, 2), wheelWith(0, 5, 2), wheelWith(-4, 5, 2), wheelWith(4, 0, 2), wheelWith(4, 61, 2), wheelWith(4, -5, 2), wheelWith(4, 5, 0), wheelWith(4, 5, 61), wheelWith(4, 5, -2), wheelWith(4, -5, -2), wheelWith(-4, -5, -2),
		wheelWith(least, 5, 2), wheelWith(greatest, 5, 2), wheelWith(4, least, 2), wheelWith(4, greatest, 2), wheelWith(4, 5, least), wheelWith(4, 5, greatest), wheelWith(least, least, least), wheelWith(greatest, greatest, greatest), wheelWith(4, least, -1), wheelWith(4, greatest, greatest),
	}
	noScales = []scale{
		{}, scaleWith(-1, 1, 4), scaleWith(61, 1, 4), scaleWith(3, -1, 4), scaleWith(3, 61, 4), scaleWith(3, 1, 0), scaleWith(3, 1, 1001), scaleWith(3, 1, -4), scaleWith(0, 0, 0), scaleWith(-3, -1, -4), scaleWith(-3, -1, 4),
		scaleWith(least, 1, 4), scaleWith(greatest, 1, 4), scaleWith(3, least, 4), scaleWith(3, greatest, 4), scaleWith(3, 1, least), scaleWith(3, 1, greatest), scaleWith(least, least, least), scaleWith(greatest, greatest, greatest), scaleWith(greatest, least, 1), scaleWith(least, greatest, 1),
	}
)

// Times, and numbers that are no time of clocks and wheels, no time of a scale, and no number of hours.
var (
	someTimes    = []int{0, 1, 2, 3, 6, 7, 100, 999, 1000, 9999, 10000}
	noTimes      = []int{-1, 10001, -10000, least, greatest, least + 1, greatest - 1}
	noScaleTimes = []int{-1, 201, 10000, -200, least, greatest, least + 1, greatest - 1}
	noHours      = []int{0, -1, 25, -24, least, greatest, least + 1, greatest - 1}
)

func TestExampleOfClocks(t *testing.T) {
	if levels, ok := impl.LevelsOfClock(bowl); !same(levels, []int{10, 7, 5, 3, 2, 1, 0}) || !ok {
		t.Errorf("levels %v, %t", levels, ok)
	}
	if n, ok := impl.TimeToEmpty(bowl); n != 6 || !ok {
		t.Errorf("empty behind %d ticks, %t", n, ok)
	}
	if marks, ok := impl.MarksOf(bowl, 2); !same(marks, []int{3, 0}) || !ok {
		t.Errorf("marks for two hours %v, %t", marks, ok)
	}
	if full, ok := impl.TimesOfScoop(mill, 0, 12); !same(full, []int{3}) || !ok {
		t.Errorf("the first scoop turns in %v, %t", full, ok)
	}
	if n, ok := impl.SpiltByWheel(mill, 3); n != 1 || !ok {
		t.Errorf("the third tick spills %d, %t", n, ok)
	}
	if n, ok := impl.TurnTime(mill); n != 12 || !ok {
		t.Errorf("a whole turn takes %d, %t", n, ok)
	}
	if s, ok := impl.ScaleEvents(balance, 2); s != "-l" || !ok {
		t.Errorf("events of two ticks %q, %t", s, ok)
	}
}

func TestIsClock(t *testing.T) {
	for _, c := range someClocks {
		if !impl.IsClock(c) {
			t.Errorf("%v: no clock", c)
		}
	}
	for level := -5; level <= 1005; level++ {
		for divide := -5; divide <= 105; divide++ {
			want := level >= 0 && level <= impl.MaxLevel && divide >= 1 && divide <= 100
			if got := impl.IsClock(clockWith(level, divide)); got != want {
				t.Errorf("level %d, divide %d: %t", level, divide, got)
			}
		}
	}
	for _, c := range noClocks {
		if impl.IsClock(c) {
			t.Errorf("%v: a clock", c)
		}
	}
}

func TestClockIsRequired(t *testing.T) {
	for _, c := range noClocks {
		what := fmt.Sprint(c, ": ")
		checkFails(t, what+"DropOf", all(impl.DropOf(c))...)
		checkFails(t, what+"LevelsOfClock", all(impl.LevelsOfClock(c))...)
		checkFails(t, what+"TimeToEmpty", all(impl.TimeToEmpty(c))...)
		for _, n := range []int{0, 1, 2, 24} {
			checkFails(t, what+"ClockAfter", all(impl.ClockAfter(c, n))...)
			checkFails(t, what+"TimeOfLevel", all(impl.TimeOfLevel(c, n))...)
			checkFails(t, what+"MarksOf", all(impl.MarksOf(c, n))...)
		}
		for _, d := range append(slices.Clone(noClocks), bowl, clockWith(0, 1)) {
			checkFails(t, what+"FirstMeeting", all(impl.FirstMeeting(c, d))...)
			checkFails(t, what+"FirstMeeting", all(impl.FirstMeeting(d, c))...)
		}
	}
}

func TestDropOf(t *testing.T) {
	for _, c := range []struct{ level, divide, want int }{
		{0, 1, 0}, {0, 4, 0}, {0, 100, 0}, {1, 1, 1}, {1, 2, 1}, {1, 100, 1}, {8, 4, 2}, {9, 4, 3}, {7, 4, 2}, {10, 4, 3}, {4, 4, 1}, {5, 4, 2}, {3, 4, 1},
		{100, 100, 1}, {101, 100, 2}, {99, 100, 1}, {200, 100, 2}, {201, 100, 3}, {199, 100, 2}, {1000, 1, 1000}, {999, 1, 999}, {1000, 2, 500}, {999, 2, 500}, {998, 2, 499}, {1000, 100, 10}, {999, 100, 10}, {901, 100, 10}, {900, 100, 9}, {1000, 99, 11}, {990, 99, 10}, {991, 99, 11},
	} {
		if got, ok := impl.DropOf(clockWith(c.level, c.divide)); got != c.want || !ok {
			t.Errorf("level %d, divide %d: %d, %t, want %d", c.level, c.divide, got, ok, c.want)
		}
	}
}

func TestClockAfter(t *testing.T) {
	for _, c := range []struct{ level, divide, t, want int }{
		{10, 4, 0, 10}, {10, 4, 1, 7}, {10, 4, 2, 5}, {10, 4, 5, 1}, {10, 4, 6, 0}, {10, 4, 7, 0}, {10, 4, 10000, 0}, {0, 4, 0, 0}, {0, 4, 1, 0}, {0, 4, 10000, 0}, {1000, 1, 0, 1000}, {1000, 1, 1, 0}, {1000, 1, 2, 0},
		{1000, 100, 0, 1000}, {1000, 100, 1, 990}, {1000, 100, 291, 1}, {1000, 100, 292, 0}, {1000, 100, 293, 0}, {1000, 100, 9999, 0}, {1000, 100, 10000, 0}, {1000, 2, 9, 1}, {1000, 2, 10, 0}, {1000, 2, 11, 0},
	} {
		want := clockWith(c.want, c.divide)
		if got, ok := impl.ClockAfter(clockWith(c.level, c.divide), c.t); got != want || !ok {
			t.Errorf("level %d, divide %d, %d ticks: %v, %t, want %v", c.level, c.divide, c.t, got, ok, want)
		}
	}
	for _, c := range someClocks {
		for _, n := range noTimes {
			checkFails(t, fmt.Sprint(c, n, ": ClockAfter"), all(impl.ClockAfter(c, n))...)
		}
	}
}

func TestLevelsOfClock(t *testing.T) {
	for _, c := range []struct {
		clock clock
		want  []int
	}{
		{clockWith(0, 1), []int{0}}, {clockWith(0, 100), []int{0}}, {clockWith(1, 1), []int{1, 0}}, {clockWith(1, 100), []int{1, 0}}, {clockWith(7, 1), []int{7, 0}}, {clockWith(1000, 1), []int{1000, 0}},
		{clockWith(10, 3), []int{10, 6, 4, 2, 1, 0}}, {clockWith(12, 5), []int{12, 9, 7, 5, 4, 3, 2, 1, 0}}, {clockWith(20, 4), []int{20, 15, 11, 8, 6, 4, 3, 2, 1, 0}}, {clockWith(5, 100), []int{5, 4, 3, 2, 1, 0}},
		{clockWith(1000, 2), []int{1000, 500, 250, 125, 62, 31, 15, 7, 3, 1, 0}}, {clockWith(1000, 3), []int{1000, 666, 444, 296, 197, 131, 87, 58, 38, 25, 16, 10, 6, 4, 2, 1, 0}},
	} {
		if got, ok := impl.LevelsOfClock(c.clock); !same(got, c.want) || !ok {
			t.Errorf("%v: %v, %t, want %v", c.clock, got, ok, c.want)
		}
		if n, ok := impl.TimeToEmpty(c.clock); n != len(c.want)-1 || !ok {
			t.Errorf("%v: TimeToEmpty %d, %t, want %d", c.clock, n, ok, len(c.want)-1)
		}
	}
	levels, ok := impl.LevelsOfClock(clockWith(1000, 100))
	if len(levels) != 293 || !same(levels[:12], []int{1000, 990, 980, 970, 960, 950, 940, 930, 920, 910, 900, 891}) || levels[291] != 1 || levels[292] != 0 || !ok {
		t.Errorf("full, divide 100: %v, %t", levels, ok)
	}
}

func TestTimeOfLevel(t *testing.T) {
	for _, c := range []struct {
		clock       clock
		level, want int
	}{
		{bowl, 10, 0}, {bowl, 11, 0}, {bowl, 1000, 0}, {bowl, 1001, 0}, {bowl, greatest, 0}, {bowl, 9, 1}, {bowl, 8, 1}, {bowl, 7, 1}, {bowl, 6, 2}, {bowl, 5, 2}, {bowl, 4, 3}, {bowl, 3, 3}, {bowl, 2, 4}, {bowl, 1, 5}, {bowl, 0, 6},
		{clockWith(0, 1), 0, 0}, {clockWith(0, 1), 1, 0}, {clockWith(0, 100), greatest, 0}, {clockWith(1000, 1), 1000, 0}, {clockWith(1000, 1), 999, 1}, {clockWith(1000, 1), 0, 1}, {clockWith(1000, 100), 0, 292}, {clockWith(1000, 100), 1, 291}, {clockWith(1000, 100), 989, 2},
	} {
		if got, ok := impl.TimeOfLevel(c.clock, c.level); got != c.want || !ok {
			t.Errorf("%v, level %d: %d, %t, want %d", c.clock, c.level, got, ok, c.want)
		}
	}
	for _, c := range someClocks {
		for _, level := range []int{-1, -2, -1000, least, least + 1} {
			checkFails(t, fmt.Sprint(c, level, ": TimeOfLevel"), all(impl.TimeOfLevel(c, level))...)
		}
	}
}

// descending returns the numbers from one less than most down to 0.
func descending(most int) []int {
	list := make([]int, most)
	for i := range list {
		list[i] = most - 1 - i
	}
	return list
}

func TestMarksOf(t *testing.T) {
	for _, c := range []struct {
		clock clock
		hours int
		want  []int
	}{
		{bowl, 1, []int{0}}, {bowl, 2, []int{3, 0}}, {bowl, 3, []int{5, 2, 0}}, {bowl, 4, []int{7, 3, 2, 0}}, {bowl, 5, []int{7, 5, 3, 2, 0}}, {bowl, 6, []int{7, 5, 3, 2, 1, 0}},
		{clockWith(1, 1), 1, []int{0}}, {clockWith(1000, 1), 1, []int{0}}, {clockWith(24, 100), 24, descending(24)}, {clockWith(25, 100), 24, append(descending(25)[:23], 0)}, {clockWith(1000, 2), 10, []int{500, 250, 125, 62, 31, 15, 7, 3, 1, 0}}, {clockWith(1000, 2), 4, []int{250, 31, 7, 0}}, {clockWith(1000, 2), 3, []int{125, 15, 0}},
	} {
		if got, ok := impl.MarksOf(c.clock, c.hours); !same(got, c.want) || !ok {
			t.Errorf("%v, %d hours: %v, %t, want %v", c.clock, c.hours, got, ok, c.want)
		}
	}
	// More hours than ticks.
	for c, hours := range map[clock]int{bowl: 7, clockWith(0, 1): 1, clockWith(0, 100): 24, clockWith(1, 1): 2, clockWith(1000, 1): 2, clockWith(23, 100): 24, clockWith(1000, 2): 11} {
		checkFails(t, fmt.Sprint(c, hours, ": MarksOf"), all(impl.MarksOf(c, hours))...)
	}
	for _, c := range someClocks {
		for _, hours := range noHours {
			checkFails(t, fmt.Sprint(c, hours, ": MarksOf"), all(impl.MarksOf(c, hours))...)
		}
	}
}

func TestLeastLevelFor(t *testing.T) {
	for _, c := range []struct{ divide, t, want int }{
		{1, 0, 0}, {2, 0, 0}, {100, 0, 0}, {1, 1, 1}, {2, 1, 1}, {100, 1, 1}, {2, 2, 2}, {2, 3, 4}, {2, 9, 256}, {2, 10, 512}, {4, 4, 4}, {4, 5, 6}, {4, 6, 8}, {4, 7, 11}, {4, 21, 654}, {4, 22, 872}, {100, 100, 100}, {100, 101, 102}, {100, 150, 200}, {100, 291, 985}, {100, 292, 995},
	} {
		if got, ok := impl.LeastLevelFor(c.divide, c.t); got != c.want || !ok {
			t.Errorf("divide %d, %d ticks: %d, %t, want %d", c.divide, c.t, got, ok, c.want)
		}
	}
	// No level has so many ticks.
	for divide, n := range map[int]int{1: 2, 2: 11, 4: 23, 10: 51, 50: 180, 99: 291, 100: 293} {
		checkFails(t, fmt.Sprint(divide, n, ": LeastLevelFor"), all(impl.LeastLevelFor(divide, n))...)
		checkFails(t, fmt.Sprint(divide, 10000, ": LeastLevelFor"), all(impl.LeastLevelFor(divide, 10000))...)
	}
	for _, divide := range []int{0, -1, 101, -4, least, greatest} {
		for _, n := range append([]int{0, 1, 10000}, noTimes...) {
			checkFails(t, fmt.Sprint(divide, n, ": LeastLevelFor"), all(impl.LeastLevelFor(divide, n))...)
		}
	}
	for _, divide := range []int{1, 4, 100} {
		for _, n := range noTimes {
			checkFails(t, fmt.Sprint(divide, n, ": LeastLevelFor"), all(impl.LeastLevelFor(divide, n))...)
		}
	}
}

func TestFirstMeeting(t *testing.T) {
	for _, c := range []struct {
		c, d clock
		want int
	}{
		{bowl, bowl, 0}, {bowl, clockWith(10, 100), 0}, {clockWith(0, 1), clockWith(0, 100), 0}, {clockWith(1000, 100), clockWith(1000, 100), 0},
		// 10, 7, 5 meets 20, 10, 5 there; 12, 9, 7, 5, .. has the same levels as 10, 7, 5, .., but later, and meets it when both are empty only.
		{bowl, clockWith(20, 2), 2}, {bowl, clockWith(7, 4), 6}, {bowl, clockWith(12, 5), 8}, {bowl, clockWith(4, 4), 6}, {clockWith(8, 2), clockWith(9, 2), 1},
		{clockWith(0, 7), bowl, 6}, {clockWith(0, 7), clockWith(1, 1), 1}, {clockWith(0, 1), clockWith(1000, 100), 292}, {clockWith(1000, 1), clockWith(1000, 100), 0}, {clockWith(999, 1), clockWith(1000, 100), 292}, {clockWith(1000, 1), clockWith(999, 1), 1},
	} {
		if got, ok := impl.FirstMeeting(c.c, c.d); got != c.want || !ok {
			t.Errorf("%v and %v: %d, %t, want %d", c.c, c.d, got, ok, c.want)
		}
		if got, ok := impl.FirstMeeting(c.d, c.c); got != c.want || !ok {
			t.Errorf("%v and %v: %d, %t, want %d", c.d, c.c, got, ok, c.want)
		}
	}
}

func TestIsWheel(t *testing.T) {
	for _, w := range someWheels {
		if !impl.IsWheel(w) {
			t.Errorf("%v: no wheel", w)
		}
	}
	eachList([]int{-2, -2, -2}, []int{63, 63, 63}, func(list []int) {
		w := wheelWith(list[0], list[1], list[2])
		want := w.Scoops >= 2 && w.Scoops <= 60 && w.Room >= 1 && w.Room <= 60 && w.Rate >= 1 && w.Rate <= 60
		if got := impl.IsWheel(w); got != want {
			t.Errorf("%v: %t", w, got)
		}
	})
	for _, w := range noWheels {
		if impl.IsWheel(w) {
			t.Errorf("%v: a wheel", w)
		}
	}
}

func TestWheelIsRequired(t *testing.T) {
	for _, w := range noWheels {
		what := fmt.Sprint(w, ": ")
		checkFails(t, what+"TurnTime", all(impl.TurnTime(w))...)
		for _, n := range []int{0, 1, 12, 10000} {
			checkFails(t, what+"WheelAfter", all(impl.WheelAfter(w, n))...)
			checkFails(t, what+"SpiltByWheel", all(impl.SpiltByWheel(w, n))...)
			for _, k := range []int{0, 1, 3} {
				checkFails(t, what+"TimesOfScoop", all(impl.TimesOfScoop(w, k, n))...)
			}
		}
	}
	for _, w := range someWheels {
		for _, n := range noTimes {
			what := fmt.Sprint(w, n, ": ")
			checkFails(t, what+"WheelAfter", all(impl.WheelAfter(w, n))...)
			checkFails(t, what+"SpiltByWheel", all(impl.SpiltByWheel(w, n))...)
			checkFails(t, what+"TimesOfScoop", all(impl.TimesOfScoop(w, 0, n))...)
		}
	}
}

func TestWheelAfter(t *testing.T) {
	for _, c := range []struct {
		wheel          scoops
		t, scoop, held int
	}{
		{mill, 0, 0, 0}, {mill, 1, 0, 2}, {mill, 2, 0, 4}, {mill, 3, 1, 0}, {mill, 4, 1, 2}, {mill, 11, 3, 4}, {mill, 12, 0, 0}, {mill, 13, 0, 2}, {mill, 10000, 1, 2},
		{wheelWith(2, 1, 1), 0, 0, 0}, {wheelWith(2, 1, 1), 1, 1, 0}, {wheelWith(2, 1, 1), 2, 0, 0}, {wheelWith(2, 1, 1), 10000, 0, 0}, {wheelWith(2, 1, 60), 9999, 1, 0}, {wheelWith(60, 60, 1), 59, 0, 59}, {wheelWith(60, 60, 1), 60, 1, 0}, {wheelWith(60, 60, 1), 3599, 59, 59}, {wheelWith(60, 60, 1), 3600, 0, 0}, {wheelWith(60, 60, 1), 10000, 46, 40}, {wheelWith(2, 60, 59), 1, 0, 59}, {wheelWith(2, 60, 59), 2, 1, 0}, {wheelWith(2, 59, 60), 1, 1, 0}, {wheelWith(60, 60, 60), 59, 59, 0}, {wheelWith(60, 60, 60), 60, 0, 0},
	} {
		if scoop, held, ok := impl.WheelAfter(c.wheel, c.t); scoop != c.scoop || held != c.held || !ok {
			t.Errorf("%v, %d ticks: %d, %d, %t, want %d, %d", c.wheel, c.t, scoop, held, ok, c.scoop, c.held)
		}
	}
}

func TestTurnTime(t *testing.T) {
	for w, want := range map[scoops]int{
		mill: 12, wheelWith(2, 1, 1): 2, wheelWith(60, 60, 1): 3600, wheelWith(60, 60, 60): 60, wheelWith(60, 1, 60): 60, wheelWith(2, 60, 59): 4, wheelWith(2, 59, 60): 2, wheelWith(7, 12, 4): 21, wheelWith(7, 13, 4): 28, wheelWith(7, 11, 4): 21, wheelWith(3, 60, 7): 27,
	} {
		if got, ok := impl.TurnTime(w); got != want || !ok {
			t.Errorf("%v: %d, %t, want %d", w, got, ok, want)
		}
	}
}

func TestTimesOfScoop(t *testing.T) {
	for _, c := range []struct {
		wheel scoops
		k, t  int
		want  []int
	}{
		{mill, 0, 0, nil}, {mill, 0, 1, nil}, {mill, 0, 2, nil}, {mill, 0, 3, []int{3}}, {mill, 0, 14, []int{3}}, {mill, 0, 15, []int{3, 15}}, {mill, 1, 40, []int{6, 18, 30}}, {mill, 3, 11, nil}, {mill, 3, 12, []int{12}}, {mill, 3, 24, []int{12, 24}}, {mill, 3, 35, []int{12, 24}},
		{wheelWith(2, 1, 60), 0, 5, []int{1, 3, 5}}, {wheelWith(2, 1, 60), 1, 5, []int{2, 4}}, {wheelWith(60, 60, 1), 59, 3599, nil}, {wheelWith(60, 60, 1), 59, 10000, []int{3600, 7200}}, {wheelWith(60, 60, 1), 0, 10000, []int{60, 3660, 7260}},
	} {
		if got, ok := impl.TimesOfScoop(c.wheel, c.k, c.t); !same(got, c.want) || !ok {
			t.Errorf("%v, scoop %d, %d ticks: %v, %t, want %v", c.wheel, c.k, c.t, got, ok, c.want)
		}
	}
	for _, w := range someWheels {
		for _, k := range []int{-1, w.Scoops, w.Scoops + 1, -w.Scoops, least, greatest, least + 1, greatest - 1} {
			for _, n := range []int{0, 1, 10, 10000} {
				checkFails(t, fmt.Sprint(w, k, n, ": TimesOfScoop"), all(impl.TimesOfScoop(w, k, n))...)
			}
		}
	}
}

func TestTimesOfScoopAreAtMost500(t *testing.T) {
	for _, c := range []struct {
		wheel             scoops
		k, t, first, last int
	}{
		{wheelWith(2, 1, 1), 0, 999, 1, 999}, {wheelWith(2, 1, 1), 0, 1000, 1, 999}, {wheelWith(2, 60, 60), 1, 1000, 2, 1000}, {wheelWith(2, 1, 60), 1, 1001, 2, 1000}, {wheelWith(2, 10, 1), 1, 10000, 20, 10000}, {wheelWith(20, 1, 1), 0, 10000, 1, 9981}, {wheelWith(19, 1, 1), 0, 9500, 1, 9482},
	} {
		got, ok := impl.TimesOfScoop(c.wheel, c.k, c.t)
		if len(got) != 500 || !ok || got[0] != c.first || got[499] != c.last {
			t.Errorf("%v, scoop %d, %d ticks: %v, %t", c.wheel, c.k, c.t, got, ok)
		}
	}
	for _, c := range []struct {
		wheel scoops
		k, t  int
	}{
		{wheelWith(2, 1, 1), 0, 1001}, {wheelWith(2, 60, 60), 1, 1002}, {wheelWith(2, 1, 60), 1, 10000}, {wheelWith(2, 9, 1), 0, 10000}, {wheelWith(19, 1, 1), 0, 9501}, {wheelWith(19, 1, 1), 18, 10000},
	} {
		checkFails(t, fmt.Sprint(c, ": TimesOfScoop"), all(impl.TimesOfScoop(c.wheel, c.k, c.t))...)
	}
}

func TestSpiltByWheel(t *testing.T) {
	for _, c := range []struct {
		wheel   scoops
		t, want int
	}{
		{mill, 0, 0}, {mill, 1, 0}, {mill, 2, 0}, {mill, 3, 1}, {mill, 5, 1}, {mill, 6, 2}, {mill, 12, 4}, {mill, 10000, 3333}, {wheelWith(2, 1, 1), 10000, 0}, {wheelWith(2, 1, 60), 1, 59}, {wheelWith(2, 1, 60), 10000, 590000}, {wheelWith(60, 60, 60), 10000, 0}, {wheelWith(60, 60, 59), 1, 0}, {wheelWith(60, 60, 59), 2, 58}, {wheelWith(60, 60, 59), 10000, 290000}, {wheelWith(2, 59, 60), 1, 1}, {wheelWith(7, 12, 4), 10000, 0}, {wheelWith(7, 13, 4), 4, 3}, {wheelWith(7, 11, 4), 3, 1}, {wheelWith(60, 60, 1), 10000, 0},
	} {
		if got, ok := impl.SpiltByWheel(c.wheel, c.t); got != c.want || !ok {
			t.Errorf("%v, %d ticks: %d, %t, want %d", c.wheel, c.t, got, ok, c.want)
		}
	}
}

func TestScaleIsRequired(t *testing.T) {
	for _, s := range noScales {
		for _, n := range []int{0, 1, 200} {
			checkFails(t, fmt.Sprint(s, n, ": ScaleEvents"), all(impl.ScaleEvents(s, n))...)
		}
		checkFails(t, fmt.Sprint(s, ": PeriodOfScale"), all(impl.PeriodOfScale(s))...)
	}
	for _, s := range someScales {
		for _, n := range noScaleTimes {
			checkFails(t, fmt.Sprint(s, n, ": ScaleEvents"), all(impl.ScaleEvents(s, n))...)
		}
	}
	for limit := -5; limit <= 1005; limit++ {
		s := scaleWith(3, 1, limit)
		if got, ok := impl.ScaleEvents(s, 0); got != "" || ok != (limit >= 1 && limit <= 1000) {
			t.Errorf("%v: ScaleEvents %q, %t", s, got, ok)
		}
	}
	for left := -5; left <= 65; left++ {
		for right := -5; right <= 65; right++ {
			s := scaleWith(left, right, 1)
			if got, ok := impl.ScaleEvents(s, 0); got != "" || ok != (left >= 0 && left <= 60 && right >= 0 && right <= 60) {
				t.Errorf("%v: ScaleEvents %q, %t", s, got, ok)
			}
		}
	}
}

func TestScaleEvents(t *testing.T) {
	for _, c := range []struct {
		scale scale
		want  string
	}{
		// Left alone, right alone, both sides, and never.
		{scaleWith(1, 0, 3), "--l--l-"}, {scaleWith(60, 0, 1), "llll"}, {scaleWith(60, 0, 60), "llll"}, {scaleWith(60, 0, 61), "-l-l-"}, {scaleWith(0, 2, 3), "-r-r-r"}, {scaleWith(0, 60, 1), "rrrr"}, {scaleWith(0, 1, 1), "rrr"},
		{balance, "-l--l----lrl--l-"}, {scaleWith(1, 3, 4), "-r--r----rlr"}, {scaleWith(5, 2, 4), "-l--lrl-l---lr"}, {scaleWith(1, 2, 1), "r-rlr-rlr-"}, {scaleWith(2, 1, 1), "l-lrl-lrl-"},
		{scaleWith(0, 0, 1), strings.Repeat("-", 200)}, {scaleWith(0, 0, 1000), strings.Repeat("-", 200)}, {scaleWith(1, 1, 1), strings.Repeat("-", 200)}, {scaleWith(60, 60, 1), strings.Repeat("-", 200)}, {scaleWith(60, 60, 1000), strings.Repeat("-", 200)}, {scaleWith(0, 1, 1000), strings.Repeat("-", 200)}, {scaleWith(60, 1, 1000), "----------------l-"}, {scaleWith(5, 0, 1000), strings.Repeat("-", 199) + "l"}, {scaleWith(5, 0, 996), strings.Repeat("-", 199) + "l"}, {scaleWith(0, 5, 995), strings.Repeat("-", 198) + "r-"},
	} {
		for n := range len(c.want) + 1 {
			if got, ok := impl.ScaleEvents(c.scale, n); got != c.want[:n] || !ok {
				t.Errorf("%v, %d ticks: %q, %t, want %q", c.scale, n, got, ok, c.want[:n])
			}
		}
	}
}

func TestPeriodOfScale(t *testing.T) {
	for _, c := range []struct {
		scale        scale
		ticks, fewer int
	}{
		// As ahead of all ticks.
		{scaleWith(0, 0, 1), 1, 0}, {scaleWith(0, 0, 1000), 1, 0}, {scaleWith(60, 0, 1), 1, 0}, {scaleWith(0, 60, 1), 1, 0}, {scaleWith(1, 0, 3), 3, 0}, {scaleWith(60, 0, 1000), 17, 0}, {scaleWith(0, 1, 1000), 1000, 0}, {scaleWith(1, 0, 1000), 1000, 0},
		// As behind some ticks.
		{balance, 20, 11}, {scaleWith(1, 2, 1), 5, 1}, {scaleWith(2, 1, 1), 5, 1}, {scaleWith(4, 2, 2), 5, 1}, {scaleWith(1, 3, 1), 6, 1}, {scaleWith(60, 59, 1), 3, 1}, {scaleWith(59, 60, 1), 3, 1}, {scaleWith(5, 3, 7), 12, 5}, {scaleWith(2, 3, 1000), 1999, 1001}, {scaleWith(1, 17, 926), 1999, 1000},
		// Behind just 2000 ticks.
		{scaleWith(1, 6, 930), 2000, 1001}, {scaleWith(6, 1, 930), 2000, 1001}, {scaleWith(1, 50, 931), 2000, 981},
	} {
		if ticks, fewer, ok := impl.PeriodOfScale(c.scale); ticks != c.ticks || fewer != c.fewer || !ok {
			t.Errorf("%v: %d, %d, %t, want %d, %d", c.scale, ticks, fewer, ok, c.ticks, c.fewer)
		}
	}
	// Never, as pans that get the same grow for ever, and behind more than 2000 ticks, among them just one more.
	for _, s := range []scale{
		scaleWith(1, 1, 1), scaleWith(1, 1, 1000), scaleWith(7, 7, 7), scaleWith(60, 60, 1), scaleWith(60, 60, 1000), scaleWith(60, 1, 1000), scaleWith(1, 45, 926), scaleWith(45, 1, 926), scaleWith(1, 9, 970), scaleWith(1, 9, 971), scaleWith(1, 14, 906), scaleWith(1, 2, 334),
	} {
		checkFails(t, fmt.Sprint(s, ": PeriodOfScale"), all(impl.PeriodOfScale(s))...)
	}
}
