package tests

import (
	"fmt"
	"math"
	"math/big"
	"reflect"
	"runtime"
	"testing"
	"time"

	"loop.example/g01208/impl"
)

type (
	vessels = impl.Vessels
	move    = impl.Move
	siphon  = impl.Siphon
	level   = impl.Level
	basin   = impl.Basin
	ratio   = impl.Ratio
	tank    = impl.Tank
	brine   = impl.Brine
	flight  = impl.Flight
	clock   = impl.Clock
	scoops  = impl.Wheel
	scale   = impl.Scale
	desk    = impl.Desk
)

// tap and drain are the same number; two names tell which one is meant.
const (
	tap   = -1
	drain = -1
)

const (
	least    = math.MinInt
	greatest = math.MaxInt
)

// mark is written into spare capacity, where no function may read or write.
const mark = 7777

// fromTo returns the move with these numbers, which may be any.
func fromTo(from int, to int) move {
	return move{From: from, To: to}
}

// basinWith returns the basin with these numbers, which may be any.
func basinWith(size int, outlet int, held int) basin {
	return basin{Size: size, Outlet: outlet, Held: held}
}

// part returns the ratio with these numbers, which may be any.
func part(num int, den int) ratio {
	return ratio{Num: num, Den: den}
}

// tankWith returns the tank with these numbers, which may be any.
func tankWith(area int, floor int, water int) tank {
	return tank{Area: area, Floor: floor, Water: water}
}

// brineOf returns the brine of vessels with a text, with that salt, which may be any.
func brineOf(s string, salt ...ratio) brine {
	v, _ := impl.ParseVessels(s)
	return brine{Vessels: v, Salt: salt}
}

// flightOf returns the flight with these lifts and, from the lowest one up, # for each full chamber and . for each empty one. Lifts may be any, also more or fewer.
func flightOf(chambers string, lifts ...int) flight {
	f := flight{Lifts: lifts}
	for _, c := range chambers {
		f.Full = append(f.Full, c == '#')
	}
	return f
}

// clockWith returns the clock with these numbers, which may be any.
func clockWith(level int, divide int) clock {
	return clock{Level: level, Divide: divide}
}

// wheelWith returns the wheel of scoops with these numbers, which may be any.
func wheelWith(count int, room int, rate int) scoops {
	return scoops{Scoops: count, Room: room, Rate: rate}
}

// scaleWith returns the scale with these numbers, which may be any.
func scaleWith(left int, right int, limit int) scale {
	return scale{Left: left, Right: right, Limit: limit}
}

// rat returns a ratio as a number of any size and fineness; one with the Den 0 has failed and is taken as 0.
func rat(r ratio) *big.Rat {
	if r.Den == 0 {
		return new(big.Rat)
	}
	return big.NewRat(int64(r.Num), int64(r.Den))
}

// exact returns a number as a ratio in lowest terms.
func exact(x *big.Rat) ratio {
	return part(int(x.Num().Int64()), int(x.Denom().Int64()))
}

// difference returns a less b.
func difference(a ratio, b ratio) *big.Rat {
	return new(big.Rat).Sub(rat(a), rat(b))
}

// isLowest reports whether a ratio is in lowest terms, with a Den of at least 1.
func isLowest(r ratio) bool {
	return r.Den >= 1 && exact(rat(r)) == r
}

// read returns the vessels with a text that is known to be one.
func read(t *testing.T, s string) vessels {
	t.Helper()
	v, ok := impl.ParseVessels(s)
	if !ok {
		t.Fatalf("ParseVessels(%q) fails", s)
	}
	return v
}

// readMoves returns the moves with texts that are known to be some.
func readMoves(t *testing.T, texts ...string) []move {
	t.Helper()
	var moves []move
	for _, s := range texts {
		m, ok := impl.ParseMove(s)
		if !ok {
			t.Fatalf("ParseMove(%q) fails", s)
		}
		moves = append(moves, m)
	}
	return moves
}

// written returns the text of vessels, or a word that is no text of any.
func written(v vessels) string {
	s, ok := impl.VesselsText(v)
	if !ok {
		return "no vessels"
	}
	return s
}

// same compares two values, where a nil slice and an empty one are the same.
func same(a any, b any) bool {
	return sameValues(reflect.ValueOf(a), reflect.ValueOf(b))
}

func sameValues(a reflect.Value, b reflect.Value) bool {
	switch a.Kind() {
	case reflect.Interface:
		return sameValues(a.Elem(), b.Elem())
	case reflect.Slice:
		if a.Len() != b.Len() {
			return false
		}
		for i := range a.Len() {
			if !sameValues(a.Index(i), b.Index(i)) {
				return false
			}
		}
		return true
	case reflect.Struct:
		for i := range a.NumField() {
			if !sameValues(a.Field(i), b.Field(i)) {
				return false
			}
		}
		return true
	}
	return a.Interface() == b.Interface()
}

// isZero reports whether a result is the zero value of its type; a slice may be empty instead of nil.
func isZero(a any) bool {
	return same(a, reflect.Zero(reflect.TypeOf(a)).Interface())
}

// checkFails reports a test error unless a call has failed with zero results. The last result is whether it succeeded.
func checkFails(t *testing.T, what string, results ...any) {
	t.Helper()
	for _, r := range results {
		if !isZero(r) {
			t.Errorf("%s: got %v, where it has to fail with zero results", what, results)
			return
		}
	}
}

// brief returns the beginning of a text of a value.
func brief(a any) string {
	s := fmt.Sprintf("%+v", a)
	return s[:min(len(s), 300)]
}

// all returns the results of a call as a list.
func all(results ...any) []any {
	return results
}

// spare returns a list in memory that goes on behind its end, with marks there.
func spare[E any](list []E, behind E) []E {
	longer := make([]E, len(list), len(list)+3)
	copy(longer, list)
	for i := len(list); i < cap(longer); i++ {
		longer[:cap(longer)][i] = behind
	}
	return longer
}

// spareVessels returns vessels with marks in the spare capacity of their lists.
func spareVessels(v vessels) vessels {
	return vessels{Sizes: spare(v.Sizes, mark), Held: spare(v.Held, mark)}
}

// spareMoves returns moves with marks in their spare capacity.
func spareMoves(moves []move) []move {
	return spare(moves, fromTo(mark, mark))
}

// spareRow returns a row with marks in its spare capacity.
func spareRow(row []basin) []basin {
	return spare(row, basinWith(mark, mark, mark))
}

// spareTanks returns tanks with marks in their spare capacity.
func spareTanks(tanks []tank) []tank {
	return spare(tanks, tankWith(mark, mark, mark))
}

// spareJoins returns joins with marks in their spare capacity and in that of each one.
func spareJoins(joins [][]int) [][]int {
	marked := make([][]int, len(joins))
	for i, join := range joins {
		marked[i] = spare(join, mark)
	}
	return spare(marked, []int{mark})
}

// spareBrine returns brine with marks in the spare capacity of its lists.
func spareBrine(b brine) brine {
	return brine{Vessels: spareVessels(b.Vessels), Salt: spare(b.Salt, part(mark, mark))}
}

// spareFlight returns a flight with marks in the spare capacity of its lists.
func spareFlight(f flight) flight {
	return flight{Lifts: spare(f.Lifts, mark), Full: spare(f.Full, true)}
}

// repeated returns a list of so many times the same move.
func repeated(m move, times int) []move {
	moves := make([]move, times)
	for i := range moves {
		moves[i] = m
	}
	return moves
}

// times returns a list of so many times the same number.
func times(x int, count int) []int {
	list := make([]int, count)
	for i := range list {
		list[i] = x
	}
	return list
}

// leavesGoroutines reports whether more goroutines are there than before. One that has told its end may need a moment to be gone.
func leavesGoroutines(before int) bool {
	for range 1000 {
		if runtime.NumGoroutine() <= before {
			return false
		}
		time.Sleep(time.Millisecond)
	}
	return true
}

// sumOf returns the sum of numbers.
func sumOf(list []int) int {
	sum := 0
	for _, x := range list {
		sum += x
	}
	return sum
}

// eachVessels calls f with all vessels of so many sizes of at most a size.
func eachVessels(count int, size int, f func(v vessels)) {
	v := vessels{Sizes: make([]int, count), Held: make([]int, count)}
	var fill func(i int)
	fill = func(i int) {
		if i == count {
			f(vessels{Sizes: append([]int(nil), v.Sizes...), Held: append([]int(nil), v.Held...)})
			return
		}
		for s := 1; s <= size; s++ {
			for h := 0; h <= s; h++ {
				v.Sizes[i], v.Held[i] = s, h
				fill(i + 1)
			}
		}
	}
	fill(0)
}

// eachMove calls f with all moves of so many vessels, ordered by From, then by To.
func eachMove(count int, f func(m move)) {
	for from := -1; from < count; from++ {
		for to := -1; to < count; to++ {
			if from != to {
				f(fromTo(from, to))
			}
		}
	}
}

// eachSiphon calls f with all siphons of at most a size, with small flows and the greatest one.
func eachSiphon(size int, f func(s siphon)) {
	for full := 1; full <= size; full++ {
		for start := 1; start <= full; start++ {
			for low := range start {
				for flow := 1; flow <= size+1; flow++ {
					f(siphon{Size: full, Low: low, Start: start, Flow: flow})
				}
				f(siphon{Size: full, Low: low, Start: start, Flow: impl.MaxSize})
			}
		}
	}
}
