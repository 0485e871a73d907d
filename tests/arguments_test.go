package tests

import (
	"fmt"
	"reflect"
	"strings"
	"testing"

	"loop.example/g01208/impl"
)

// arguments are those with which every function is called.
type arguments struct {
	V, W    vessels
	M       move
	Moves   []move
	I, J, K int
	Closed  bool
	S       string
}

// calls are functions by their names.
type calls map[string]func(a arguments) []any

// vesselCalls are the functions of chapter 1.
var vesselCalls = calls{
	"AreVessels":   func(a arguments) []any { return all(impl.AreVessels(a.V)) },
	"SumHeld":      func(a arguments) []any { return all(impl.SumHeld(a.V)) },
	"RoomIn":       func(a arguments) []any { return all(impl.RoomIn(a.V, a.I)) },
	"IsMove":       func(a arguments) []any { return all(impl.IsMove(a.V, a.M)) },
	"AmountOf":     func(a arguments) []any { return all(impl.AmountOf(a.V, a.M)) },
	"MakeMove":     func(a arguments) []any { return all(impl.MakeMove(a.V, a.M)) },
	"MakeMoves":    func(a arguments) []any { return all(impl.MakeMoves(a.V, a.Moves)) },
	"StatesAlong":  func(a arguments) []any { return all(impl.StatesAlong(a.V, a.Moves)) },
	"TakenIn":      func(a arguments) []any { return all(impl.TakenIn(a.V, a.Moves)) },
	"MovesOn":      func(a arguments) []any { return all(impl.MovesOn(a.V, a.Closed)) },
	"IsUndone":     func(a arguments) []any { return all(impl.IsUndone(a.V, a.M)) },
	"SwapVessels":  func(a arguments) []any { return all(impl.SwapVessels(a.V, a.I, a.J)) },
	"ScaleVessels": func(a arguments) []any { return all(impl.ScaleVessels(a.V, a.I)) },
	"LeastScale":   func(a arguments) []any { return all(impl.LeastScale(a.V)) },
	"VesselsText":  func(a arguments) []any { return all(impl.VesselsText(a.V)) },
	"ParseVessels": func(a arguments) []any { return all(impl.ParseVessels(a.S)) },
	"MoveText":     func(a arguments) []any { return all(impl.MoveText(a.M)) },
	"ParseMove":    func(a arguments) []any { return all(impl.ParseMove(a.S)) },
}

// planCalls are the functions of chapter 2.
var planCalls = calls{
	"CountStates":     func(a arguments) []any { return all(impl.CountStates(a.V, a.Closed)) },
	"IsReached":       func(a arguments) []any { return all(impl.IsReached(a.V, a.W, a.Closed)) },
	"PlanTo":          func(a arguments) []any { return all(impl.PlanTo(a.V, a.W, a.Closed)) },
	"PlanToAmount":    func(a arguments) []any { return all(impl.PlanToAmount(a.V, a.I, a.Closed)) },
	"AmountsOf":       func(a arguments) []any { return all(impl.AmountsOf(a.V, a.Closed)) },
	"SumsOf":          func(a arguments) []any { return all(impl.SumsOf(a.V)) },
	"FarthestState":   func(a arguments) []any { return all(impl.FarthestState(a.V, a.Closed)) },
	"LayersOf":        func(a arguments) []any { return all(impl.LayersOf(a.V, a.Closed)) },
	"CountPlans":      func(a arguments) []any { return all(impl.CountPlans(a.V, a.W, a.Closed)) },
	"LastingStates":   func(a arguments) []any { return all(impl.LastingStates(a.V, a.Closed)) },
	"DivisorOf":       func(a arguments) []any { return all(impl.DivisorOf(a.V)) },
	"TwoVesselPlan":   func(a arguments) []any { return all(impl.TwoVesselPlan(a.I, a.J, a.K)) },
	"TwoVesselLength": func(a arguments) []any { return all(impl.TwoVesselLength(a.I, a.J, a.K)) },
	"LeastWater":      func(a arguments) []any { return all(impl.LeastWater(a.V, a.I)) },
	"WaterPlan":       func(a arguments) []any { return all(impl.WaterPlan(a.V, a.I)) },
}

// oddVessels returns vessels and values that are none, all with spare capacity.
func oddVessels() []vessels {
	list := []vessels{
		{Sizes: []int{3, 5}, Held: []int{0, 5}},
		{Sizes: []int{4, 6}, Held: []int{2, 4}},
		{Sizes: []int{60}, Held: []int{0}},
		{Sizes: []int{60, 60, 60, 60, 60}, Held: []int{60, 0, 30, 59, 1}},
	}
	for _, v := range noVessels {
		list = append(list, v)
	}
	for i, v := range list {
		list[i] = spareVessels(v)
	}
	return append(list, vessels{})
}

// oddMoves returns moves and values that are none.
func oddMoves() []move {
	numbers := []int{least, -2, -1, 0, 1, 4, 5, greatest}
	var moves []move
	for _, from := range numbers {
		for _, to := range numbers {
			moves = append(moves, fromTo(from, to))
		}
	}
	return moves
}

// oddLists returns lists of moves, and lists that are none, all with spare capacity.
func oddLists() [][]move {
	lists := [][]move{
		{},
		{fromTo(0, drain)},
		{fromTo(tap, 0), fromTo(0, drain), fromTo(tap, 0)},
		{fromTo(1, 0), fromTo(0, drain), fromTo(1, 0)},
		{fromTo(0, 1), fromTo(1, 2), fromTo(2, 3), fromTo(3, 4), fromTo(4, 0)},
		{fromTo(0, drain), fromTo(tap, drain)},
		{fromTo(least, greatest)},
		repeated(fromTo(0, drain), 100),
		repeated(fromTo(0, drain), 101),
	}
	for i, list := range lists {
		lists[i] = spareMoves(list)
	}
	return append(lists, nil)
}

// longArguments are arguments far longer than the limits.
func longArguments() arguments {
	return arguments{
		V:     spareVessels(vessels{Sizes: make([]int, 100000), Held: make([]int, 100000)}),
		W:     spareVessels(vessels{Sizes: make([]int, 100000), Held: make([]int, 100000)}),
		Moves: spareMoves(repeated(fromTo(0, drain), 100000)),
		S:     strings.Repeat("0/1,", 100000),
	}
}

// eachArguments calls f with many arguments, ordinary and odd ones beside each other.
func eachArguments(f func(a arguments)) {
	numbers := []int{least, -1, 0, 1, 2, 4, 5, 60, 61, greatest}
	texts := []string{"", "0/3,5/5", "1>0", "t>4", "4>d", "0/3,", "00/3", ">", "\xff\x00", strings.Repeat("9", 100)}
	moves, lists := oddMoves(), oddLists()
	for _, v := range oddVessels() {
		for i, m := range moves {
			f(arguments{V: v, M: m, I: numbers[i%len(numbers)], J: 1, S: texts[i%len(texts)], Closed: i%2 == 0})
		}
		for i, list := range lists {
			f(arguments{V: v, M: fromTo(0, drain), Moves: list, I: i % 3, J: numbers[i%len(numbers)], S: texts[i%len(texts)]})
		}
		for i := range 3 {
			for j := range 3 {
				f(arguments{V: v, M: fromTo(i, j), Moves: lists[1], I: i, J: j, S: texts[1+i], Closed: true})
			}
		}
	}
	f(longArguments())
}

// eachPlanArguments calls f with arguments of plans: each odd vessels beside others, and numbers that may be any.
func eachPlanArguments(f func(a arguments)) {
	numbers := []int{least, -1, 0, 1, 2, 4, 5, 60, 61, greatest}
	list := append(oddVessels(), spareVessels(vessels{Sizes: []int{3, 5}, Held: []int{3, 2}}), spareVessels(vessels{Sizes: []int{4, 6}, Held: []int{0, 0}}))
	for i, v := range list {
		for j, w := range list {
			f(arguments{V: v, W: w, I: numbers[(i+j)%len(numbers)], J: numbers[i%len(numbers)], K: numbers[j%len(numbers)], Closed: (i+j)%2 == 0})
		}
		f(arguments{V: v, W: v, I: 2, J: 5, K: 4, Closed: true})
	}
	small := spareVessels(vessels{Sizes: []int{3, 5}, Held: []int{0, 5}})
	for i, a := range numbers {
		for _, b := range numbers {
			for j, amount := range numbers {
				f(arguments{V: small, W: small, I: a, J: b, K: amount, Closed: (i+j)%2 == 0})
			}
		}
	}
	f(longArguments())
}

// whole returns a copy of a value in which every slice is as long as its memory: what is behind its length is seen too.
func whole(v reflect.Value) reflect.Value {
	switch v.Kind() {
	case reflect.Slice:
		longer := reflect.MakeSlice(v.Type(), v.Cap(), v.Cap())
		reflect.Copy(longer, v.Slice(0, v.Cap()))
		return longer
	case reflect.Struct:
		s := reflect.New(v.Type()).Elem()
		for i := range v.NumField() {
			s.Field(i).Set(whole(v.Field(i)))
		}
		return s
	}
	return v
}

// block is a piece of memory behind a slice.
type block struct {
	from, to uintptr
}

// blocksOf appends the memory behind all slices in a value, also behind their length.
func blocksOf(blocks []block, v reflect.Value) []block {
	switch v.Kind() {
	case reflect.Slice:
		if v.Cap() > 0 {
			from := v.Pointer()
			blocks = append(blocks, block{from, from + uintptr(v.Cap())*v.Type().Elem().Size()})
		}
		for i := range v.Len() {
			blocks = blocksOf(blocks, v.Index(i))
		}
	case reflect.Struct:
		for i := range v.NumField() {
			blocks = blocksOf(blocks, v.Field(i))
		}
	}
	return blocks
}

// shares reports whether some slice of the results shares memory with an argument or with another slice of them.
func shares(a arguments, results []any) bool {
	given := blocksOf(nil, reflect.ValueOf(a))
	var made []block
	for _, r := range results {
		made = blocksOf(made, reflect.ValueOf(r))
	}
	for i, b := range made {
		for _, c := range append(append([]block(nil), given...), made[:i]...) {
			if b.from < c.to && c.from < b.to {
				return true
			}
		}
	}
	return false
}

// tried returns the results of a call, and what it panics with if it does.
func tried(call func(a arguments) []any, a arguments) (results []any, raised any) {
	defer func() {
		raised = recover()
	}()
	return call(a), nil
}

// checkCall calls a function twice and checks what is promised for every call.
func checkCall(t *testing.T, name string, call func(a arguments) []any, a arguments) {
	before := whole(reflect.ValueOf(a)).Interface()
	results, raised := tried(call, a)
	if raised != nil {
		t.Fatalf("%s panics for %s: %v", name, brief(a), raised)
	}
	if !reflect.DeepEqual(whole(reflect.ValueOf(a)).Interface(), before) {
		t.Fatalf("%s changes its arguments %s", name, brief(before))
	}
	if results[len(results)-1] == false {
		checkFails(t, name, results...)
	}
	if shares(a, results) {
		t.Fatalf("%s of %s: results share memory", name, brief(a))
	}
	if again := call(a); !same(results, again) {
		t.Fatalf("%s of %s: %s, and then %s", name, brief(a), brief(results), brief(again))
	}
}

func TestEveryCallIsTotalAndLeavesItsArguments(t *testing.T) {
	eachArguments(func(a arguments) {
		for name, call := range vesselCalls {
			checkCall(t, name, call, a)
		}
	})
	eachPlanArguments(func(a arguments) {
		for name, call := range planCalls {
			checkCall(t, name, call, a)
		}
	})
}

// plainCalls are arguments without spare capacity, and the functions that are called with them.
func plainCalls() map[*arguments]calls {
	return map[*arguments]calls{
		{
			V: vessels{Sizes: []int{3, 5}, Held: []int{0, 5}}, M: fromTo(1, 0),
			Moves: []move{fromTo(1, 0), fromTo(0, drain), fromTo(1, 0)},
			I:     1, J: 0, S: "0/3",
		}: vesselCalls,
		{
			V: vessels{Sizes: []int{3, 5}, Held: []int{0, 5}}, W: vessels{Sizes: []int{3, 5}, Held: []int{3, 2}},
			I: 4, J: 7, K: 5,
		}: planCalls,
	}
}

// spared returns the same arguments with marks in the spare capacity behind their lists.
func spared(a arguments) arguments {
	a.V, a.W, a.Moves = spareVessels(a.V), spareVessels(a.W), spareMoves(a.Moves)
	return a
}

func TestSpareCapacityIsNotRead(t *testing.T) {
	for plain, list := range plainCalls() {
		marked := spared(*plain)
		for name, call := range list {
			if a, b := call(*plain), call(marked); !same(a, b) {
				t.Errorf("%s: %v without spare capacity, %v with some", name, a, b)
			}
		}
	}
}

func TestResultsStayWhenArgumentsChange(t *testing.T) {
	for plain, list := range plainCalls() {
		a := spared(*plain)
		results := map[string]string{}
		kept := map[string][]any{}
		for name, call := range list {
			kept[name] = call(a)
			results[name] = fmt.Sprint(kept[name]...)
		}
		for _, numbers := range [][]int{a.V.Sizes, a.V.Held, a.W.Sizes, a.W.Held} {
			for i := range numbers {
				numbers[i] = mark
			}
		}
		for i := range a.Moves {
			a.Moves[i] = fromTo(mark, mark)
		}
		for name, want := range results {
			if got := fmt.Sprint(kept[name]...); got != want {
				t.Errorf("%s: %s has become %s", name, want, got)
			}
		}
	}
}
