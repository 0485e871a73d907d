package tests

import (
	"math/rand"
	"slices"
	"strings"
	"testing"

	"loop.example/g01208/impl"
)

// clockWork is a second way through the ticks of a clock: water runs out unit by unit, until as many units times its Divide are no less than the level.
func clockWork(c clock) []int {
	levels := []int{c.Level}
	for level := c.Level; level > 0; {
		out := 0
		for out*c.Divide < level {
			out++
		}
		level -= out
		levels = append(levels, level)
	}
	return levels
}

// drawnClock returns a clock that is drawn.
func drawnClock(r *rand.Rand) clock {
	return clockWith(r.Intn(impl.MaxLevel+1), 1+r.Intn(100))
}

// eachClock calls f with all clocks of small levels, all full ones, those of the table, and many that are drawn.
func eachClock(most int, drawnOnes int, f func(c clock)) {
	for divide := 1; divide <= 100; divide++ {
		f(clockWith(impl.MaxLevel, divide))
		for level := range most + 1 {
			f(clockWith(level, divide))
		}
	}
	for _, c := range someClocks {
		f(c)
	}
	r := drawn()
	for range drawnOnes {
		f(drawnClock(r))
	}
}

// checkClock checks what is told of a clock by its levels.
func checkClock(t *testing.T, c clock, levels []int) {
	t.Helper()
	last := len(levels) - 1
	for _, n := range []int{0, 1, last / 3, last / 2, last - 1, last, last + 1, 10000} {
		if n < 0 {
			continue
		}
		want := clockWith(0, c.Divide)
		if n < last {
			want.Level = levels[n]
		}
		if got, ok := impl.ClockAfter(c, n); got != want || !ok {
			t.Fatalf("%v, %d ticks: ClockAfter %v, %t, want %v", c, n, got, ok, want)
		}
	}
	if n, ok := impl.TimeToEmpty(c); n != last || !ok {
		t.Fatalf("%v: TimeToEmpty %d, %t, want %d", c, n, ok, last)
	}
	for _, level := range []int{0, 1, c.Level / 3, c.Level / 2, c.Level - 1, c.Level, c.Level + 1, 1001} {
		if level < 0 {
			continue
		}
		want := 0
		for levels[want] > level {
			want++
		}
		if got, ok := impl.TimeOfLevel(c, level); got != want || !ok {
			t.Fatalf("%v, level %d: TimeOfLevel %d, %t, want %d", c, level, got, ok, want)
		}
	}
}

func TestClocksAgree(t *testing.T) {
	eachClock(40, 1000, func(c clock) {
		want := clockWork(c)
		levels, ok := impl.LevelsOfClock(c)
		if !same(levels, want) || !ok {
			t.Fatalf("%v: LevelsOfClock %v, %t, want %v", c, levels, ok, want)
		}
		checkClock(t, c, want)
	})
}

func TestEachLevelIsTheOneBeforeLessItsDrop(t *testing.T) {
	eachClock(40, 500, func(c clock) {
		levels, _ := impl.LevelsOfClock(c)
		if len(levels) > 2001 || levels[0] != c.Level || levels[len(levels)-1] != 0 {
			t.Fatalf("%v: levels %v", c, levels)
		}
		for i, level := range levels {
			drop, ok := impl.DropOf(clockWith(level, c.Divide))
			if !ok || drop*c.Divide < level || (drop-1)*c.Divide >= level && level > 0 {
				t.Fatalf("divide %d, level %d: drop %d, %t", c.Divide, level, drop, ok)
			}
			if i+1 < len(levels) && (levels[i+1] != level-drop || drop < 1) {
				t.Fatalf("%v: levels %v, drop %d of %d", c, levels, drop, level)
			}
			if behind, ok := impl.ClockAfter(clockWith(level, c.Divide), 1); behind != clockWith(level-drop, c.Divide) || !ok {
				t.Fatalf("divide %d, level %d: behind a tick %v, %t", c.Divide, level, behind, ok)
			}
		}
	})
}

// All levels with some of the Divides, each one alone.
func TestAllLevelsEmptyInTime(t *testing.T) {
	for _, divide := range []int{1, 2, 3, 10, 100} {
		for level := range impl.MaxLevel + 1 {
			c := clockWith(level, divide)
			if n, ok := impl.TimeToEmpty(c); n != len(clockWork(c))-1 || !ok {
				t.Fatalf("%v: %d, %t, want %d", c, n, ok, len(clockWork(c))-1)
			}
		}
	}
}

func TestMarksAgree(t *testing.T) {
	eachClock(40, 300, func(c clock) {
		levels := clockWork(c)
		time := len(levels) - 1
		for hours := 1; hours <= impl.MaxHours; hours++ {
			marks, ok := impl.MarksOf(c, hours)
			if time < hours {
				checkFails(t, "MarksOf", marks, ok)
				continue
			}
			var want []int
			for k, n := 1, 0; k <= hours; k++ {
				for (n+1)*hours <= k*time {
					n++
				}
				want = append(want, levels[n])
			}
			if !same(marks, want) || !ok {
				t.Fatalf("%v, %d hours: %v, %t, want %v", c, hours, marks, ok, want)
			}
		}
	})
}

// All Divides, and all times that some level has.
func TestLeastLevelsAgree(t *testing.T) {
	for divide := 1; divide <= 100; divide++ {
		want := 0
		for n := 0; want <= impl.MaxLevel; n++ {
			for want <= impl.MaxLevel && len(clockWork(clockWith(want, divide)))-1 < n {
				want++
			}
			got, ok := impl.LeastLevelFor(divide, n)
			if want > impl.MaxLevel {
				checkFails(t, "LeastLevelFor", got, ok)
				continue
			}
			if got != want || !ok {
				t.Fatalf("divide %d, %d ticks: %d, %t, want %d", divide, n, got, ok, want)
			}
			if time, ok := impl.TimeToEmpty(clockWith(got, divide)); time < n || !ok {
				t.Fatalf("divide %d, %d ticks: level %d is empty behind %d, %t", divide, n, got, time, ok)
			}
			if time, _ := impl.TimeToEmpty(clockWith(got-1, divide)); got > 0 && time >= n {
				t.Fatalf("divide %d, %d ticks: level %d, but %d is empty behind %d", divide, n, got, got-1, time)
			}
		}
	}
}

// checkMeeting checks when two clocks meet, tick by tick.
func checkMeeting(t *testing.T, c clock, d clock) {
	t.Helper()
	ofC, ofD := append(clockWork(c), times(0, 1001)...), append(clockWork(d), times(0, 1001)...)
	want := 0
	for ofC[want] != ofD[want] {
		want++
	}
	if got, ok := impl.FirstMeeting(c, d); got != want || !ok {
		t.Fatalf("%v and %v: %d, %t, want %d", c, d, got, ok, want)
	}
}

func TestMeetingsAgree(t *testing.T) {
	for _, c := range someClocks {
		for _, d := range someClocks {
			checkMeeting(t, c, d)
		}
	}
	eachList([]int{0, 1, 0, 1}, []int{8, 5, 8, 5}, func(list []int) {
		checkMeeting(t, clockWith(list[0], list[1]), clockWith(list[2], list[3]))
	})
	r := drawn()
	for range 2000 {
		checkMeeting(t, drawnClock(r), drawnClock(r))
	}
}

// scoopWork is a second way through the ticks of a wheel: each unit falls alone.
type scoopWork struct {
	wheel       scoops
	scoop, held int
	spilt       int
	full        [][]int
	turned      int
}

func newScoopWork(w scoops) *scoopWork {
	return &scoopWork{wheel: w, full: make([][]int, w.Scoops)}
}

// tick lets Rate fall at the tick with a number. What falls into a scoop that is full already is spilt.
func (w *scoopWork) tick(number int) {
	for range w.wheel.Rate {
		if w.held < w.wheel.Room {
			w.held++
		} else {
			w.spilt++
		}
	}
	if w.held == w.wheel.Room {
		w.full[w.scoop] = append(w.full[w.scoop], number)
		w.held = 0
		w.scoop++
		if w.scoop == w.wheel.Scoops {
			w.scoop = 0
			if w.turned == 0 {
				w.turned = number
			}
		}
	}
}

// checkWheel checks what is told of a wheel by a work that has gone through t ticks.
func checkWheel(t *testing.T, w *scoopWork, n int) {
	t.Helper()
	if scoop, held, ok := impl.WheelAfter(w.wheel, n); scoop != w.scoop || held != w.held || !ok {
		t.Fatalf("%v, %d ticks: WheelAfter %d, %d, %t, want %d, %d", w.wheel, n, scoop, held, ok, w.scoop, w.held)
	}
	spilt, ok := impl.SpiltByWheel(w.wheel, n)
	if spilt != w.spilt || !ok {
		t.Fatalf("%v, %d ticks: SpiltByWheel %d, %t, want %d", w.wheel, n, spilt, ok, w.spilt)
	}
	// Water is kept: what has fallen is spilt, held, or was in a scoop that was full.
	fallen := n*w.wheel.Rate - spilt - w.held
	for k, want := range w.full {
		fallen -= len(want) * w.wheel.Room
		got, ok := impl.TimesOfScoop(w.wheel, k, n)
		if len(want) > 500 {
			checkFails(t, "TimesOfScoop", got, ok)
		} else if !same(got, want) || !ok {
			t.Fatalf("%v, scoop %d, %d ticks: TimesOfScoop %v, %t, want %v", w.wheel, k, n, got, ok, want)
		}
	}
	if fallen != 0 {
		t.Fatalf("%v, %d ticks: %d are not kept", w.wheel, n, fallen)
	}
	if w.turned > 0 {
		if got, ok := impl.TurnTime(w.wheel); got != w.turned || !ok {
			t.Fatalf("%v: TurnTime %d, %t, want %d", w.wheel, got, ok, w.turned)
		}
	}
}

func TestWheelsAgree(t *testing.T) {
	eachList([]int{2, 1, 1}, []int{4, 9, 11}, func(list []int) {
		w := newScoopWork(wheelWith(list[0], list[1], list[2]))
		checkWheel(t, w, 0)
		for n := 1; n <= 50; n++ {
			w.tick(n)
			checkWheel(t, w, n)
		}
	})
	wheels := slices.Clone(someWheels)
	r := drawn()
	for range 150 {
		wheels = append(wheels, wheelWith(2+r.Intn(59), 1+r.Intn(60), 1+r.Intn(60)))
	}
	for _, wheel := range wheels {
		w := newScoopWork(wheel)
		for n := 1; n <= 10000; n++ {
			w.tick(n)
			if n%997 == 0 || n == 10000 {
				checkWheel(t, w, n)
			}
		}
	}
}

// All rooms and rates: a whole turn and all that is spilt in it.
func TestTurnsAgree(t *testing.T) {
	eachList([]int{2, 1, 1}, []int{3, 60, 60}, func(list []int) {
		w := newScoopWork(wheelWith(list[0], list[1], list[2]))
		for n := 1; w.turned == 0; n++ {
			w.tick(n)
		}
		checkWheel(t, w, w.turned)
		if scoop, held, ok := impl.WheelAfter(w.wheel, w.turned); scoop != 0 || held != 0 || !ok {
			t.Fatalf("%v: behind a turn %d, %d, %t", w.wheel, scoop, held, ok)
		}
	})
}

// weigh is a second way through the ticks of a scale: the drops fall into the pans by turns, and only how much the left one holds more is looked at. It returns what the pans hold ahead of and behind each tick, and the events.
func weigh(s scale, ticks int) ([][2]int, string) {
	var held [2]int
	behind, events := [][2]int{held}, ""
	for range ticks {
		for i := range max(s.Left, s.Right) {
			if i < s.Left {
				held[0]++
			}
			if i < s.Right {
				held[1]++
			}
		}
		event, more := "-", held[0]-held[1]
		if more >= s.Limit {
			held[0], event = 0, "l"
		}
		if -more >= s.Limit {
			held[1], event = 0, "r"
		}
		behind, events = append(behind, held), events+event
	}
	return behind, events
}

// drawnScale returns a scale that is drawn, with a Limit of at most a limit.
func drawnScale(r *rand.Rand, limit int) scale {
	return scaleWith(r.Intn(61), r.Intn(61), 1+r.Intn(limit))
}

// eachScale calls f with all small scales, those of the table, and many that are drawn.
func eachScale(drawnOnes int, f func(s scale)) {
	eachList([]int{0, 0, 1}, []int{5, 5, 9}, func(list []int) {
		f(scaleWith(list[0], list[1], list[2]))
	})
	for _, s := range someScales {
		f(s)
	}
	r := drawn()
	for range drawnOnes {
		f(drawnScale(r, 20))
		f(drawnScale(r, 1000))
	}
}

func TestScalesAgree(t *testing.T) {
	eachScale(500, func(s scale) {
		_, want := weigh(s, 200)
		for _, n := range []int{0, 1, 2, 7, 100, 199, 200} {
			if got, ok := impl.ScaleEvents(s, n); got != want[:n] || !ok {
				t.Fatalf("%v, %d ticks: %q, %t, want %q", s, n, got, ok, want[:n])
			}
		}
	})
}

func TestScalesTipToTheOtherSideWhenTurned(t *testing.T) {
	turn := strings.NewReplacer("l", "r", "r", "l")
	eachScale(200, func(s scale) {
		turned := scaleWith(s.Right, s.Left, s.Limit)
		events, _ := impl.ScaleEvents(s, 200)
		if got, ok := impl.ScaleEvents(turned, 200); got != turn.Replace(events) || !ok {
			t.Fatalf("%v: %q, %t, and %q turned", s, events, ok, got)
		}
		ticks, fewer, ok := impl.PeriodOfScale(s)
		if a, b, fine := impl.PeriodOfScale(turned); a != ticks || b != fewer || fine != ok {
			t.Fatalf("%v: %d, %d, %t, and %d, %d, %t turned", s, ticks, fewer, ok, a, b, fine)
		}
	})
}

// returnOf returns behind how many of so many ticks both pans first hold what they have held, by comparing with all that was ahead.
func returnOf(behind [][2]int) (int, int, bool) {
	for n := range behind {
		for m := range n {
			if behind[m] == behind[n] {
				return n, m, true
			}
		}
	}
	return 0, 0, false
}

func TestPeriodsOfScalesAgree(t *testing.T) {
	eachScale(250, func(s scale) {
		behind, events := weigh(s, 2000)
		n, m, want := returnOf(behind)
		ticks, fewer, ok := impl.PeriodOfScale(s)
		if ticks != n || fewer != m || ok != want {
			t.Fatalf("%v: %d, %d, %t, want %d, %d, %t", s, ticks, fewer, ok, n, m, want)
		}
		// From there on its events come again.
		if again := events[m:]; ok && again[n-m:] != again[:len(again)-n+m] {
			t.Fatalf("%v: %d, %d, but the events %q", s, ticks, fewer, events)
		}
	})
}
