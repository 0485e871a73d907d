package tests

import (
	"strings"
	"testing"

	"loop.example/g01208/impl"
)

// noVessels are values that are no vessels: limits exceeded by one, lists of different lengths, numbers of any size.
var noVessels = map[string]vessels{
	"nil":               {},
	"empty":             {Sizes: []int{}, Held: []int{}},
	"no held":           {Sizes: []int{3}},
	"no sizes":          {Held: []int{0}},
	"more sizes":        {Sizes: []int{3, 5}, Held: []int{0}},
	"more held":         {Sizes: []int{3}, Held: []int{0, 5}},
	"six vessels":       {Sizes: []int{1, 1, 1, 1, 1, 1}, Held: []int{0, 0, 0, 0, 0, 0}},
	"size 0":            {Sizes: []int{0}, Held: []int{0}},
	"size 61":           {Sizes: []int{61}, Held: []int{0}},
	"size -1":           {Sizes: []int{3, -1}, Held: []int{0, 0}},
	"least size":        {Sizes: []int{least}, Held: []int{0}},
	"greatest size":     {Sizes: []int{greatest}, Held: []int{0}},
	"held more":         {Sizes: []int{3}, Held: []int{4}},
	"held more at last": {Sizes: []int{3, 5, 4}, Held: []int{3, 5, 5}},
	"held -1":           {Sizes: []int{3}, Held: []int{-1}},
	"held least":        {Sizes: []int{3}, Held: []int{least}},
	"held greatest":     {Sizes: []int{60}, Held: []int{greatest}},
	"all least":         {Sizes: []int{least, least}, Held: []int{least, least}},
	"all greatest":      {Sizes: []int{greatest, greatest}, Held: []int{greatest, greatest}},
}

// noMovesOfTwo are no moves of two vessels.
var noMovesOfTwo = []move{
	fromTo(0, 0), fromTo(1, 1), fromTo(tap, drain), fromTo(0, 2), fromTo(2, 0), fromTo(tap, 2), fromTo(2, drain), fromTo(-2, 0), fromTo(0, -2), fromTo(-2, -1), fromTo(-1, -2),
	fromTo(5, 0), fromTo(0, 5), fromTo(least, 0), fromTo(0, least), fromTo(greatest, 0), fromTo(0, greatest), fromTo(least, greatest), fromTo(greatest, least),
}

func TestAreVessels(t *testing.T) {
	fine := []vessels{
		{Sizes: []int{1}, Held: []int{0}},
		{Sizes: []int{1}, Held: []int{1}},
		{Sizes: []int{60}, Held: []int{60}},
		{Sizes: []int{60}, Held: []int{0}},
		{Sizes: []int{3, 5}, Held: []int{0, 5}},
		{Sizes: []int{60, 60, 60, 60, 60}, Held: []int{60, 0, 60, 1, 59}},
		{Sizes: []int{1, 1, 1, 1, 1}, Held: []int{0, 0, 0, 0, 0}},
	}
	for _, v := range fine {
		if !impl.AreVessels(v) {
			t.Errorf("%v: no vessels", v)
		}
	}
	for name, v := range noVessels {
		if impl.AreVessels(v) {
			t.Errorf("%s %v: vessels", name, v)
		}
	}
}

func TestVesselsAreRequired(t *testing.T) {
	m := fromTo(0, drain)
	for name, v := range noVessels {
		checkFails(t, name+": SumHeld", all(impl.SumHeld(v))...)
		checkFails(t, name+": RoomIn", all(impl.RoomIn(v, 0))...)
		checkFails(t, name+": IsMove", all(impl.IsMove(v, m))...)
		checkFails(t, name+": AmountOf", all(impl.AmountOf(v, m))...)
		checkFails(t, name+": MakeMove", all(impl.MakeMove(v, m))...)
		checkFails(t, name+": MakeMoves", all(impl.MakeMoves(v, nil))...)
		checkFails(t, name+": StatesAlong", all(impl.StatesAlong(v, nil))...)
		checkFails(t, name+": TakenIn", all(impl.TakenIn(v, nil))...)
		checkFails(t, name+": MovesOn", all(impl.MovesOn(v, false))...)
		checkFails(t, name+": MovesOn closed", all(impl.MovesOn(v, true))...)
		checkFails(t, name+": IsUndone", all(impl.IsUndone(v, m))...)
		checkFails(t, name+": SwapVessels", all(impl.SwapVessels(v, 0, 0))...)
		checkFails(t, name+": ScaleVessels", all(impl.ScaleVessels(v, 1))...)
		checkFails(t, name+": LeastScale", all(impl.LeastScale(v))...)
		checkFails(t, name+": VesselsText", all(impl.VesselsText(v))...)
	}
}

func TestSumHeld(t *testing.T) {
	for s, want := range map[string]int{"0/3,5/5": 5, "0/1": 0, "60/60,60/60,60/60,60/60,60/60": 300, "1/2,0/7,3/4": 4} {
		if got, ok := impl.SumHeld(read(t, s)); got != want || !ok {
			t.Errorf("%s: got %d, %t, want %d", s, got, ok, want)
		}
	}
}

func TestRoomIn(t *testing.T) {
	v := read(t, "0/3,5/5,2/60")
	for i, want := range []int{3, 0, 58} {
		if got, ok := impl.RoomIn(v, i); got != want || !ok {
			t.Errorf("%d: got %d, %t, want %d", i, got, ok, want)
		}
	}
	for _, i := range []int{-1, 3, 5, least, greatest} {
		checkFails(t, "RoomIn", all(impl.RoomIn(v, i))...)
	}
}

func TestIsMove(t *testing.T) {
	v := read(t, "0/3,5/5")
	for _, m := range []move{fromTo(0, 1), fromTo(1, 0), fromTo(tap, 0), fromTo(tap, 1), fromTo(0, drain), fromTo(1, drain)} {
		if is, ok := impl.IsMove(v, m); !is || !ok {
			t.Errorf("%v: %t, %t", m, is, ok)
		}
	}
	for _, m := range noMovesOfTwo {
		if is, ok := impl.IsMove(v, m); is || !ok {
			t.Errorf("%v: %t, %t", m, is, ok)
		}
	}
	five := read(t, "0/1,0/1,0/1,0/1,0/1")
	for _, m := range []move{fromTo(0, 4), fromTo(4, 0), fromTo(tap, 4), fromTo(4, drain)} {
		if is, ok := impl.IsMove(five, m); !is || !ok {
			t.Errorf("of five: %v: %t, %t", m, is, ok)
		}
	}
	if is, ok := impl.IsMove(five, fromTo(0, 5)); is || !ok {
		t.Errorf("of five: 0>5 is %t, %t", is, ok)
	}
}

func TestMovesAreRequired(t *testing.T) {
	v := read(t, "0/3,5/5")
	for _, m := range noMovesOfTwo {
		checkFails(t, "AmountOf", all(impl.AmountOf(v, m))...)
		checkFails(t, "MakeMove", all(impl.MakeMove(v, m))...)
		checkFails(t, "IsUndone", all(impl.IsUndone(v, m))...)
		for _, moves := range [][]move{{m}, {fromTo(1, 0), m}, {m, fromTo(1, 0)}, {fromTo(1, 0), m, fromTo(0, drain)}} {
			checkFails(t, "MakeMoves", all(impl.MakeMoves(v, moves))...)
			checkFails(t, "StatesAlong", all(impl.StatesAlong(v, moves))...)
			checkFails(t, "TakenIn", all(impl.TakenIn(v, moves))...)
		}
	}
}

func TestOneMove(t *testing.T) {
	cases := []struct {
		before string
		m      string
		amount int
		behind string
	}{
		{"0/3,5/5", "1>0", 3, "3/3,2/5"},
		{"3/3,2/5", "0>d", 3, "0/3,2/5"},
		{"0/3,2/5", "1>0", 2, "2/3,0/5"},
		{"2/3,0/5", "0>1", 2, "0/3,2/5"},
		{"2/3,4/5", "0>1", 1, "1/3,5/5"},
		{"0/3,5/5", "t>0", 3, "3/3,5/5"},
		{"1/3,5/5", "t>0", 2, "3/3,5/5"},
		{"0/3,5/5", "t>1", 0, "0/3,5/5"},
		{"0/3,5/5", "0>d", 0, "0/3,5/5"},
		{"0/3,5/5", "0>1", 0, "0/3,5/5"},
		{"2/3,5/5", "0>1", 0, "2/3,5/5"},
		{"0/3,0/5", "0>1", 0, "0/3,0/5"},
		{"3/3", "0>d", 3, "0/3"},
		{"0/60,60/60", "1>0", 60, "60/60,0/60"},
		{"1/9,2/9,3/9,4/9,5/9", "4>0", 5, "6/9,2/9,3/9,4/9,0/9"},
		{"1/9,2/9,3/9,4/9,5/9", "t>4", 4, "1/9,2/9,3/9,4/9,9/9"},
		{"1/9,2/9,3/9,4/9,5/9", "4>d", 5, "1/9,2/9,3/9,4/9,0/9"},
	}
	for _, c := range cases {
		v, m := read(t, c.before), readMoves(t, c.m)[0]
		if got, ok := impl.AmountOf(v, m); got != c.amount || !ok {
			t.Errorf("%s %s: amount %d, %t, want %d", c.before, c.m, got, ok, c.amount)
		}
		if got, ok := impl.MakeMove(v, m); written(got) != c.behind || !ok {
			t.Errorf("%s %s: %v, %t, want %s", c.before, c.m, got, ok, c.behind)
		}
	}
}

func TestExampleMoveByMove(t *testing.T) {
	v := read(t, "0/3,5/5")
	moves := readMoves(t, "1>0", "0>d", "1>0")
	states, ok := impl.StatesAlong(v, moves)
	want := []string{"0/3,5/5", "3/3,2/5", "0/3,2/5", "2/3,0/5"}
	if !ok || len(states) != len(want) {
		t.Fatalf("StatesAlong: %v, %t", states, ok)
	}
	for i, w := range states {
		if written(w) != want[i] {
			t.Errorf("behind %d moves: %v, want %s", i, w, want[i])
		}
		if got, ok := impl.MakeMoves(v, moves[:i]); written(got) != want[i] || !ok {
			t.Errorf("MakeMoves of %d: %v, %t, want %s", i, got, ok, want[i])
		}
	}
	if a, b, ok := impl.TakenIn(v, moves); a != 0 || b != 3 || !ok {
		t.Errorf("TakenIn: %d, %d, %t, want 0, 3", a, b, ok)
	}
	if is, ok := impl.IsUndone(states[1], moves[1]); !is || !ok {
		t.Errorf("0>d behind 1>0 is undone: %t, %t", is, ok)
	}
}

func TestNoMoves(t *testing.T) {
	v := read(t, "1/3,5/5")
	for _, moves := range [][]move{nil, {}} {
		if got, ok := impl.MakeMoves(v, moves); !same(got, v) || !ok {
			t.Errorf("MakeMoves: %v, %t", got, ok)
		}
		if got, ok := impl.StatesAlong(v, moves); !same(got, []vessels{v}) || !ok {
			t.Errorf("StatesAlong: %v, %t", got, ok)
		}
		if a, b, ok := impl.TakenIn(v, moves); a != 0 || b != 0 || !ok {
			t.Errorf("TakenIn: %d, %d, %t", a, b, ok)
		}
	}
}

func TestMaxMoves(t *testing.T) {
	v := read(t, "0/60,1/2")
	var moves []move
	for len(moves) < impl.MaxMoves {
		moves = append(moves, fromTo(tap, 0), fromTo(0, drain))
	}
	if got, ok := impl.MakeMoves(v, moves); written(got) != "0/60,1/2" || !ok {
		t.Errorf("MakeMoves: %v, %t", got, ok)
	}
	states, ok := impl.StatesAlong(v, moves)
	if len(states) != 101 || !ok || written(states[99]) != "60/60,1/2" || written(states[100]) != "0/60,1/2" {
		t.Errorf("StatesAlong: %v, %t", states, ok)
	}
	if a, b, ok := impl.TakenIn(v, moves); a != 3000 || b != 3000 || !ok {
		t.Errorf("TakenIn: %d, %d, %t", a, b, ok)
	}
	for _, more := range [][]move{append(moves, fromTo(tap, 0)), repeated(fromTo(0, 1), 101), repeated(fromTo(0, 1), 5000)} {
		checkFails(t, "MakeMoves", all(impl.MakeMoves(v, more))...)
		checkFails(t, "StatesAlong", all(impl.StatesAlong(v, more))...)
		checkFails(t, "TakenIn", all(impl.TakenIn(v, more))...)
	}
}

func TestTakenIn(t *testing.T) {
	cases := []struct {
		before     string
		moves      string
		tap, drain int
	}{
		{"0/3,0/5", "t>1 1>0 0>d 1>0 t>1 1>0", 10, 3},
		{"1/3,5/5", "t>0", 2, 0},
		{"1/3,5/5", "0>d", 0, 1},
		{"1/3,5/5", "0>1 1>0", 0, 0},
		{"3/3,5/5", "t>0 t>1 0>1", 0, 0},
		{"0/3,0/5", "0>d 1>d 0>1", 0, 0},
		{"0/3,0/5", "t>0 t>1 0>d 1>d t>0", 11, 8},
	}
	for _, c := range cases {
		a, b, ok := impl.TakenIn(read(t, c.before), readMoves(t, strings.Fields(c.moves)...))
		if a != c.tap || b != c.drain || !ok {
			t.Errorf("%s %s: %d, %d, %t, want %d, %d", c.before, c.moves, a, b, ok, c.tap, c.drain)
		}
	}
}

func TestMovesOn(t *testing.T) {
	cases := []struct {
		before string
		closed bool
		want   string
	}{
		{"0/3,5/5", false, "t>0 1>d 1>0"},
		{"0/3,5/5", true, "1>0"},
		{"1/3,2/5", false, "t>0 t>1 0>d 0>1 1>d 1>0"},
		{"1/3,2/5", true, "0>1 1>0"},
		{"0/3,0/5", false, "t>0 t>1"},
		{"0/3,0/5", true, ""},
		{"3/3,5/5", false, "0>d 1>d"},
		{"3/3,5/5", true, ""},
		{"2/3", true, ""},
		{"2/3", false, "t>0 0>d"},
		{"1/2,0/1,2/2", false, "t>0 t>1 0>d 0>1 2>d 2>0 2>1"},
		{"1/2,0/1,2/2", true, "0>1 2>0 2>1"},
	}
	for _, c := range cases {
		got, ok := impl.MovesOn(read(t, c.before), c.closed)
		if want := readMoves(t, strings.Fields(c.want)...); !same(got, want) || !ok {
			t.Errorf("%s %t: %v, %t, want %s", c.before, c.closed, got, ok, c.want)
		}
	}
	if got, ok := impl.MovesOn(read(t, "1/2,1/2,1/2,1/2,1/2"), false); len(got) != 30 || !ok {
		t.Errorf("five vessels have %d moves, want 30", len(got))
	}
}

func TestIsUndone(t *testing.T) {
	cases := []struct {
		before, m string
		want      bool
	}{
		{"3/3,2/5", "0>d", true},
		{"2/3,2/5", "0>d", false},
		{"1/3", "t>0", false},
		{"0/3", "t>0", true},
		{"0/3,5/5", "1>0", true},
		{"1/3,5/5", "1>0", true},
		{"2/3,2/5", "0>1", false},
		{"0/3,2/5", "1>0", true},
		{"1/3,3/5", "1>0", false},
		{"0/3,0/5", "0>1", true},
		{"2/3,5/5", "0>1", true},
		{"3/3,1/5", "t>0", true},
		{"1/3,0/5", "0>d", false},
		{"1/3,0/5", "1>d", true},
		{"3/3", "t>0", true},
		{"1/2,1/2,1/2,1/2,1/2", "4>3", false},
		{"1/2,1/2,1/2,0/2,2/2", "4>3", true},
		{"1/2,1/2,1/2,1/2,2/2", "4>3", true},
		{"1/2,1/2,1/2,1/2,2/2", "4>d", true},
		{"1/2,1/2,1/2,1/2,1/2", "t>4", false},
	}
	for _, c := range cases {
		is, ok := impl.IsUndone(read(t, c.before), readMoves(t, c.m)[0])
		if is != c.want || !ok {
			t.Errorf("%s %s: %t, %t, want %t", c.before, c.m, is, ok, c.want)
		}
	}
}

func TestSwapVessels(t *testing.T) {
	v := read(t, "0/3,5/5,2/7")
	cases := []struct {
		i, j int
		want string
	}{
		{0, 1, "5/5,0/3,2/7"}, {1, 0, "5/5,0/3,2/7"}, {0, 2, "2/7,5/5,0/3"}, {2, 1, "0/3,2/7,5/5"},
		{0, 0, "0/3,5/5,2/7"}, {2, 2, "0/3,5/5,2/7"},
	}
	for _, c := range cases {
		if got, ok := impl.SwapVessels(v, c.i, c.j); written(got) != c.want || !ok {
			t.Errorf("%d, %d: %v, %t, want %s", c.i, c.j, got, ok, c.want)
		}
	}
	for _, i := range []int{-1, 3, 5, least, greatest} {
		checkFails(t, "SwapVessels", all(impl.SwapVessels(v, i, 0))...)
		checkFails(t, "SwapVessels", all(impl.SwapVessels(v, 0, i))...)
		checkFails(t, "SwapVessels", all(impl.SwapVessels(v, i, i))...)
	}
}

func TestScaleVessels(t *testing.T) {
	cases := []struct {
		before string
		k      int
		want   string
	}{
		{"0/3,5/5", 1, "0/3,5/5"}, {"0/3,4/5", 2, "0/6,8/10"}, {"0/3,4/5", 12, "0/36,48/60"}, {"1/1", 60, "60/60"},
		{"0/1", 60, "0/60"}, {"60/60", 1, "60/60"}, {"30/30,1/2", 2, "60/60,2/4"},
	}
	for _, c := range cases {
		if got, ok := impl.ScaleVessels(read(t, c.before), c.k); written(got) != c.want || !ok {
			t.Errorf("%s, %d: %v, %t, want %s", c.before, c.k, got, ok, c.want)
		}
	}
	tooMuch := []struct {
		before string
		k      int
	}{
		{"0/3,4/5", 0}, {"0/3,4/5", -1}, {"0/3,4/5", least}, {"0/3,4/5", 13}, {"0/3,4/5", 61}, {"0/3,4/5", greatest},
		{"1/1", 61}, {"60/60", 2}, {"0/1,0/31", 2}, {"0/31,0/1", 2}, {"31/31", 2}, {"30/31", 2},
		{"0/3", 6148914691236517206}, // the product wraps around to 2
		{"0/4", 1<<62 + 1},           // and here to 4
	}
	for _, c := range tooMuch {
		checkFails(t, "ScaleVessels", all(impl.ScaleVessels(read(t, c.before), c.k))...)
	}
}

func TestLeastScale(t *testing.T) {
	cases := []struct {
		before  string
		want    string
		divisor int
	}{
		{"0/3,5/5", "0/3,5/5", 1}, {"0/6,4/10", "0/3,2/5", 2}, {"60/60", "1/1", 60}, {"0/60", "0/1", 60},
		{"0/12,0/18", "0/2,0/3", 6}, {"3/12,0/18", "1/4,0/6", 3}, {"0/12,1/18", "0/12,1/18", 1},
		{"0/1", "0/1", 1}, {"5/60,10/20,15/30,40/40,0/55", "1/12,2/4,3/6,8/8,0/11", 5},
	}
	for _, c := range cases {
		got, divisor, ok := impl.LeastScale(read(t, c.before))
		if written(got) != c.want || divisor != c.divisor || !ok {
			t.Errorf("%s: %v, %d, %t, want %s, %d", c.before, got, divisor, ok, c.want, c.divisor)
		}
	}
}

func TestVesselsText(t *testing.T) {
	cases := []struct {
		v vessels
		s string
	}{
		{vessels{Sizes: []int{3, 5}, Held: []int{0, 5}}, "0/3,5/5"},
		{vessels{Sizes: []int{1}, Held: []int{0}}, "0/1"},
		{vessels{Sizes: []int{60}, Held: []int{60}}, "60/60"},
		{vessels{Sizes: []int{10, 20, 30, 40, 60}, Held: []int{10, 0, 7, 39, 60}}, "10/10,0/20,7/30,39/40,60/60"},
	}
	for _, c := range cases {
		if s, ok := impl.VesselsText(c.v); s != c.s || !ok {
			t.Errorf("%v: %q, %t, want %q", c.v, s, ok, c.s)
		}
		if v, ok := impl.ParseVessels(c.s); !same(v, c.v) || !ok {
			t.Errorf("%q: %v, %t, want %v", c.s, v, ok, c.v)
		}
	}
}

// noVesselsTexts are texts of no vessels.
var noVesselsTexts = []string{
	"", "0", "/", ",", "0/", "/3", "0/3,", ",0/3", "0/3,,5/5", "0/3,5", "0/3,5/", "0/3,/5", "0//3", "0/3/", "/0/3", "0/3/3", "0/3;5/5", "0/3 5/5", "0:3", "0\\3",
	"00/3", "0/03", "01/3", "0/3,05/5", "+0/3", "0/+3", "-0/3", "-1/3", "0/-3", "+1/+3",
	" 0/3", "0/3 ", "0 /3", "0/ 3", "0/3, 5/5", "0/3 ,5/5", "0/3\n", "\t0/3", "0/3\x00", "0/3\r\n",
	"a/3", "0/b", "0x0/3", "0/0x3", "0/3.0", "0/3e0", "0/1_0", "1_0/60", "٣/3", "0/３", "\xff/3", "t/3",
	"0/0", "1/0", "4/3", "0/61", "61/61", "0/3,6/5", "0/1,0/1,0/1,0/1,0/1,0/1", "0/1,0/1,0/1,0/1,0/1,", "0/1,0/1,0/1,0/1,0/1,0/1,0/1",
	"0/100", "0/9223372036854775807", "0/9223372036854775808", "0/18446744073709551619", "18446744073709551616/3", "0/-9223372036854775808",
	"0/3000000000000000000000000000000000000000", "0000000000000000000000000/3", strings.Repeat("0/1,", 100000), strings.Repeat("9", 100000), strings.Repeat("/", 1000), strings.Repeat(",", 1000),
}

func TestTextsOfNoVessels(t *testing.T) {
	for _, s := range noVesselsTexts {
		v, ok := impl.ParseVessels(s)
		checkFails(t, "ParseVessels of "+s[:min(len(s), 60)], v, ok)
	}
}

func TestMoveText(t *testing.T) {
	cases := []struct {
		m move
		s string
	}{
		{fromTo(0, 1), "0>1"}, {fromTo(1, 0), "1>0"}, {fromTo(tap, 0), "t>0"}, {fromTo(0, drain), "0>d"},
		{fromTo(4, 0), "4>0"}, {fromTo(0, 4), "0>4"}, {fromTo(tap, 4), "t>4"}, {fromTo(4, drain), "4>d"}, {fromTo(3, 4), "3>4"},
	}
	for _, c := range cases {
		if s, ok := impl.MoveText(c.m); s != c.s || !ok {
			t.Errorf("%v: %q, %t, want %q", c.m, s, ok, c.s)
		}
		if m, ok := impl.ParseMove(c.s); m != c.m || !ok {
			t.Errorf("%q: %v, %t, want %v", c.s, m, ok, c.m)
		}
	}
	for _, m := range []move{
		fromTo(tap, drain), fromTo(0, 0), fromTo(4, 4), fromTo(0, 5), fromTo(5, 0), fromTo(tap, 5), fromTo(5, drain), fromTo(-2, 0), fromTo(0, -2), fromTo(-2, -1), fromTo(-1, -2),
		fromTo(least, 0), fromTo(0, least), fromTo(greatest, 0), fromTo(0, greatest), fromTo(greatest, least),
	} {
		checkFails(t, "MoveText", all(impl.MoveText(m))...)
	}
}

// noMoveTexts are texts of no move.
var noMoveTexts = []string{
	"", ">", "0", "t", "d", "0>", ">0", "t>", ">d", "01", "0>>1", ">0>1", "0>1>", "0>1>2", "0>1,1>0", "0<1", "0-1", "0/1", "0=>1",
	"t>d", "t>t", "d>d", "d>t", "d>0", "0>t", "0>0", "4>4", "-1>0", "0>-1", "-1>-1", "0>5", "5>0", "t>5", "5>d", "0>10", "10>0",
	"00>1", "0>01", "00>d", "t>00", "+0>1", "0>+1", "-0>1", "0>-0", "0>-2",
	" 0>1", "0>1 ", "0 >1", "0> 1", "0 > 1", "0>1\n", "t >0", "0>d ", "0>\t1", "0>1\x00", "\xff>1", "0>\xff",
	"T>0", "0>D", "tt>0", "0>dd", "a>0", "0>b", "0x0>1", "0>1.0", "1_0>0", "０>1",
	"9223372036854775807>0", "0>9223372036854775808", "18446744073709551616>1", "0>18446744073709551617", "-9223372036854775808>0",
	strings.Repeat("0", 1000) + ">1", "0>" + strings.Repeat("1", 100000), strings.Repeat("0>1", 1000), strings.Repeat(">", 1000),
}

func TestTextsOfNoMoves(t *testing.T) {
	for _, s := range noMoveTexts {
		m, ok := impl.ParseMove(s)
		checkFails(t, "ParseMove of "+s[:min(len(s), 60)], m, ok)
	}
}
