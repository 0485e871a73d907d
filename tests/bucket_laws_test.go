package tests

import (
	"math/rand"
	"slices"
	"testing"

	"loop.example/g01208/impl"
)

// wheelWork is a second way through drops: each one falls alone.
type wheelWork struct {
	caps, held, tips []int
	lost             int
}

func newWheelWork(caps []int, held []int) *wheelWork {
	return &wheelWork{caps: caps, held: slices.Clone(held), tips: times(0, len(caps))}
}

// drop lets one drop fall and returns how many buckets tip.
func (w *wheelWork) drop() int {
	for i := range w.caps {
		w.held[i]++
		if w.held[i] < w.caps[i] {
			return i
		}
		w.held[i] = 0
		w.tips[i]++
	}
	w.lost++
	return len(w.caps)
}

// eachList calls f with all lists that have one number for each of the bounds, at least its low and at most its high.
func eachList(lows []int, highs []int, f func(list []int)) {
	list := slices.Clone(lows)
	var fill func(i int)
	fill = func(i int) {
		if i == len(list) {
			f(slices.Clone(list))
			return
		}
		for x := lows[i]; x <= highs[i]; x++ {
			list[i] = x
			fill(i + 1)
		}
	}
	fill(0)
}

// eachCaps calls f with all caps of at most so many buckets, none greater than most.
func eachCaps(count int, most int, f func(caps []int)) {
	for n := range count {
		eachList(times(2, n+1), times(most, n+1), f)
	}
}

// eachHeld calls f with all lists that buckets can hold.
func eachHeld(caps []int, f func(held []int)) {
	highs := slices.Clone(caps)
	for i := range highs {
		highs[i]--
	}
	eachList(times(0, len(caps)), highs, f)
}

// someCaps returns caps that are drawn, none greater than most.
func someCaps(r *rand.Rand, most int) []int {
	caps := make([]int, 1+r.Intn(impl.MaxBuckets))
	for i := range caps {
		caps[i] = 2 + r.Intn(most-1)
	}
	return caps
}

// someHeld returns what buckets can hold, drawn.
func someHeld(r *rand.Rand, caps []int) []int {
	held := make([]int, len(caps))
	for i, size := range caps {
		held[i] = r.Intn(size)
	}
	return held
}

// someDays returns amounts or tips that are drawn, none greater than most.
func someDays(r *rand.Rand, most int) []int {
	days := make([]int, r.Intn(101))
	for i := range days {
		days[i] = r.Intn(1 + most)
	}
	return days
}

// checkWork checks what is told behind n drops by a work through which they have gone, with as many tips at the last one.
func checkWork(t *testing.T, w *wheelWork, n int, last int) {
	t.Helper()
	held, ok := impl.HeldAfter(w.caps, n)
	if !same(held, w.held) || !ok {
		t.Fatalf("%v behind %d drops: held %v, %t, want %v", w.caps, n, held, ok, w.held)
	}
	tips, ok := impl.TipsAfter(w.caps, n)
	if !same(tips, w.tips) || !ok {
		t.Fatalf("%v behind %d drops: tips %v, %t, want %v", w.caps, n, tips, ok, w.tips)
	}
	at, ok := impl.TipsAtDrop(w.caps, n)
	if n == 0 {
		checkFails(t, "TipsAtDrop", at, ok)
	} else if at != last || !ok {
		t.Fatalf("%v at drop %d: %d tips, %t, want %d", w.caps, n, at, ok, last)
	}
	// Each bucket gets what the one before hands on, keeps what it holds, and has a cap of drops for each of its tips.
	in := n
	for i, size := range w.caps {
		if in != held[i]+size*tips[i] {
			t.Fatalf("%v behind %d drops: held %v, tips %v: drops are not kept", w.caps, n, held, tips)
		}
		in = tips[i]
	}
	if in != w.lost {
		t.Fatalf("%v behind %d drops: %d are lost, want %d", w.caps, n, in, w.lost)
	}
}

func TestDropsAgree(t *testing.T) {
	eachCaps(3, 5, func(caps []int) {
		drops, _ := impl.RoundOf(caps)
		w := newWheelWork(caps, times(0, len(caps)))
		checkWork(t, w, 0, 0)
		for n := 1; n <= 2*drops+1; n++ {
			checkWork(t, w, n, w.drop())
		}
	})
}

func TestManyDropsAgree(t *testing.T) {
	r := drawn()
	for range 10 {
		w := newWheelWork(someCaps(r, 60), nil)
		w.held = times(0, len(w.caps))
		for n := 1; n <= impl.MaxDrops; n++ {
			last := w.drop()
			if n >= impl.MaxDrops-3 || r.Intn(2000) == 0 || last == len(w.caps) && r.Intn(100) == 0 {
				checkWork(t, w, n, last)
			}
		}
	}
}

func TestRoundsLeaveAllAsBefore(t *testing.T) {
	eachCaps(3, 5, func(caps []int) {
		drops, ok := impl.RoundOf(caps)
		seen := map[int]bool{}
		eachHeld(caps, func(held []int) {
			w := newWheelWork(caps, held)
			for n := 1; n <= drops; n++ {
				w.drop()
				if slices.Equal(w.held, held) != (n == drops) || !ok {
					t.Fatalf("%v, round %d: %v comes again behind %d drops", caps, drops, held, n)
				}
			}
			n, ok := impl.DropsFor(caps, held)
			got, _ := impl.HeldAfter(caps, n)
			if !slices.Equal(got, held) || n < 0 || n >= drops || seen[n] || !ok {
				t.Fatalf("%v: %d drops for %v, %t, but they make %v", caps, n, held, ok, got)
			}
			seen[n] = true
		})
		if len(seen) != drops {
			t.Fatalf("%v: round %d, but %d lists", caps, drops, len(seen))
		}
	})
}

func TestDropsOnAndBackAgree(t *testing.T) {
	eachCaps(3, 4, func(caps []int) {
		drops, _ := impl.RoundOf(caps)
		eachHeld(caps, func(held []int) {
			w := newWheelWork(caps, held)
			for n := range drops + 3 {
				checkOnAndBack(t, caps, held, n, w.held)
				w.drop()
			}
		})
	})
	r := drawn()
	for range 20 {
		caps := someCaps(r, 2+r.Intn(59))
		held := someHeld(r, caps)
		w := newWheelWork(caps, held)
		for n := range 50000 {
			if r.Intn(500) == 0 {
				checkOnAndBack(t, caps, held, n, w.held)
			}
			w.drop()
		}
	}
}

// checkOnAndBack checks that n drops lead from one list to the other one, and back.
func checkOnAndBack(t *testing.T, caps []int, before []int, n int, behind []int) {
	t.Helper()
	if got, ok := impl.AddDrops(caps, before, n); !same(got, behind) || !ok {
		t.Fatalf("%v: %v and %d drops: %v, %t, want %v", caps, before, n, got, ok, behind)
	}
	if got, ok := impl.BackDrops(caps, behind, n); !same(got, before) || !ok {
		t.Fatalf("%v: %v, %d drops before: %v, %t, want %v", caps, behind, n, got, ok, before)
	}
}

func TestBackUndoesOn(t *testing.T) {
	r := drawn()
	for range 20000 {
		caps := someCaps(r, 60)
		held, n := someHeld(r, caps), r.Intn(impl.MaxDrops+1)
		behind, _ := impl.AddDrops(caps, held, n)
		if got, ok := impl.BackDrops(caps, behind, n); !same(got, held) || !ok {
			t.Fatalf("%v: %v and %d drops: %v, and back %v, %t", caps, held, n, behind, got, ok)
		}
		before, _ := impl.BackDrops(caps, held, n)
		if got, ok := impl.AddDrops(caps, before, n); !same(got, held) || !ok {
			t.Fatalf("%v: %v, %d drops before: %v, and on %v, %t", caps, held, n, before, got, ok)
		}
		from, _ := impl.DropsFor(caps, held)
		to, _ := impl.DropsFor(caps, behind)
		if drops, _ := impl.RoundOf(caps); (from+n)%drops != to {
			t.Fatalf("%v: %v and %d drops: %v, but %d and %d drops make them", caps, held, n, behind, from, to)
		}
	}
}

// gauged is a second way through rain: every unit of it falls alone.
func gauged(room int, rain []int) ([]int, int) {
	tips, held := times(0, len(rain)), 0
	for day, amount := range rain {
		for range amount {
			held++
			if held == room {
				held = 0
				tips[day]++
			}
		}
	}
	return tips, held
}

// checkRain checks all functions of rain, and that the tips tell its sum within the room.
func checkRain(t *testing.T, room int, rain []int) {
	t.Helper()
	wantTips, wantRest := gauged(room, rain)
	tips, ok := impl.TipsOfRain(room, rain)
	if !same(tips, wantTips) || !ok {
		t.Fatalf("%d and %v: tips %v, %t, want %v", room, rain, tips, ok, wantTips)
	}
	rest, ok := impl.RestOfRain(room, rain)
	if rest != wantRest || !ok {
		t.Fatalf("%d and %v: rest %d, %t, want %d", room, rain, rest, ok, wantRest)
	}
	if sumOf(rain) != room*sumOf(tips)+rest {
		t.Fatalf("%d and %v: tips %v, rest %d: rain is not kept", room, rain, tips, rest)
	}
	wantFirst := 1 + slices.IndexFunc(wantTips, func(times int) bool { return times > 0 })
	if first, ok := impl.FirstTip(room, rain); first != wantFirst || ok != (wantFirst > 0) {
		t.Fatalf("%d and %v: first tip %d, %t, want %d", room, rain, first, ok, wantFirst)
	}
	low, high, ok := impl.RangeOfTips(room, tips)
	if sumOf(rain) < low || sumOf(rain) > high || high != low+room-1 || !ok {
		t.Fatalf("%d and %v: range %d, %d, %t", room, rain, low, high, ok)
	}
}

func TestRainAgrees(t *testing.T) {
	for room := 1; room <= 6; room++ {
		for days := range 4 {
			eachList(times(0, days), times(8, days), func(rain []int) { checkRain(t, room, rain) })
		}
	}
	r := drawn()
	for range 1000 {
		checkRain(t, 1+r.Intn(60), someDays(r, r.Intn(1+r.Intn(10001))))
	}
}

// rangeOf returns the least and the greatest sum for which gauges tip so often, and whether there is one, by a look at all sums up to most.
func rangeOf(most int, rooms []int, tips []int) (int, int, bool) {
	low, high, some := 0, 0, false
	for sum := range most + 1 {
		fine := true
		for i, room := range rooms {
			got, _ := gauged(room, []int{sum})
			fine = fine && got[0] == tips[i]
		}
		if fine && !some {
			low, some = sum, true
		}
		if fine {
			high = sum
		}
	}
	return low, high, some
}

func TestRangesAgree(t *testing.T) {
	eachList([]int{1, 1, 0, 0}, []int{6, 6, 5, 5}, func(c []int) {
		rooms, tips := c[:2], c[2:]
		wantLow, wantHigh, wantSome := rangeOf(50, rooms[:1], tips[:1])
		if low, high, ok := impl.RangeOfTips(rooms[0], tips[:1]); low != wantLow || high != wantHigh || ok != wantSome {
			t.Fatalf("%v: %d, %d, %t, want %d, %d, %t", c, low, high, ok, wantLow, wantHigh, wantSome)
		}
		wantLow, wantHigh, wantSome = rangeOf(50, rooms, tips)
		// Where the tips are on other days does not matter.
		for _, other := range [][]int{tips[1:], {0, tips[1]}, times(1, tips[1])} {
			if low, high, ok := impl.RangeOfTwo(rooms[0], rooms[1], tips[:1], other); low != wantLow || high != wantHigh || ok != wantSome {
				t.Fatalf("%v: %d, %d, %t, want %d, %d, %t", c, low, high, ok, wantLow, wantHigh, wantSome)
			}
		}
	})
}

func TestTwoGaugesTellTheSameRain(t *testing.T) {
	r := drawn()
	for range 3000 {
		rain := someDays(r, r.Intn(1+r.Intn(10001)))
		a, b := 1+r.Intn(60), 1+r.Intn(60)
		tips, _ := impl.TipsOfRain(a, rain)
		other, _ := impl.TipsOfRain(b, rain)
		low, high, ok := impl.RangeOfTwo(a, b, tips, other)
		if sumOf(rain) < low || sumOf(rain) > high || high-low >= min(a, b) || !ok {
			t.Fatalf("%d, %d and %v: range %d, %d, %t", a, b, rain, low, high, ok)
		}
		// The ends have just these tips, and those beyond them have not.
		for i, sum := range []int{low, high, low - 1, high + 1} {
			if fine := sum >= 0 && sum/a == sumOf(tips) && sum/b == sumOf(other); fine != (i < 2) {
				t.Fatalf("%d, %d and %v: range %d, %d, but %d has the tips: %t", a, b, rain, low, high, sum, fine)
			}
		}
	}
}

// leastRain is a second way to the rain of tips: day by day the least amount that is enough, and whether none is more than 10000.
func leastRain(room int, tips []int) ([]int, bool) {
	rain, fine := times(0, len(tips)), true
	for day := range tips {
		for {
			got, _ := gauged(room, rain[:day+1])
			if got[day] >= tips[day] {
				break
			}
			rain[day]++
		}
		fine = fine && rain[day] <= 10000
	}
	return rain, fine
}

func TestRainOfTipsAgrees(t *testing.T) {
	for room := 1; room <= 6; room++ {
		for days := range 4 {
			eachList(times(0, days), times(4, days), func(tips []int) {
				want, _ := leastRain(room, tips)
				rain, ok := impl.RainOfTips(room, tips)
				if !same(rain, want) || !ok {
					t.Fatalf("%d and %v: %v, %t, want %v", room, tips, rain, ok, want)
				}
				checkLeast(t, room, tips, rain)
			})
		}
	}
	for room := 1; room <= 60; room++ {
		most := 10000 / room
		for _, tips := range [][]int{{most}, {0, most}, {most, 1}} {
			rain, ok := impl.RainOfTips(room, tips)
			if got, _ := gauged(room, rain); !same(got, tips) || !ok {
				t.Fatalf("%d and %v: %v, %t with the tips %v", room, tips, rain, ok, got)
			}
			more := slices.Clone(tips)
			more[0]++
			if most < 10000 && tips[0] == most {
				checkFails(t, "RainOfTips", all(impl.RainOfTips(room, more))...)
			}
		}
	}
}

// checkLeast checks that rain has tips, and that on no day a smaller amount would do.
func checkLeast(t *testing.T, room int, tips []int, rain []int) {
	t.Helper()
	if got, ok := impl.TipsOfRain(room, rain); !same(got, tips) || !ok {
		t.Fatalf("%d and %v: %v has the tips %v, %t", room, tips, rain, got, ok)
	}
	for day := range rain {
		for less := range rain[day] {
			changed := append(slices.Clone(rain[:day]), less)
			if got, _ := gauged(room, changed); got[day] == tips[day] {
				t.Fatalf("%d and %v: %v, but %d is enough on day %d", room, tips, rain, less, day+1)
			}
		}
	}
}
