package tests

import (
	"fmt"
	"math/rand"
	"slices"
	"strings"
	"testing"

	"loop.example/g01208/impl"
)

// no and what are the replies to lines that change nothing.
const (
	no   = "no"
	what = "what"
)

// hugeVessels reach more than impl.MaxStates vessels, also closed.
const hugeVessels = "30/60,29/59,28/58,27/57,26/56"

// deskOf returns the desk with the vessels of a text and so much taken, which may be any.
func deskOf(s string, taken int) desk {
	v, _ := impl.ParseVessels(s)
	return desk{Vessels: v, Taken: taken}
}

// noDesks returns what is no desk.
func noDesks() []desk {
	list := []desk{{}, {Taken: 5}}
	for _, v := range noVessels {
		for _, taken := range []int{0, 5, -1, least, greatest} {
			list = append(list, desk{Vessels: v, Taken: taken})
		}
	}
	for _, taken := range []int{-1, -2, -1000000, 1000001, 1000002, least, least + 1, greatest, greatest - 1} {
		list = append(list, deskOf("0/3,5/5", taken), deskOf("0/1", taken))
	}
	return list
}

// checkLine checks the reply to a line, and the desk behind it.
func checkLine(t *testing.T, before desk, line string, reply string, behind desk) {
	t.Helper()
	d, got, ok := impl.DeskLine(before, line)
	if got != reply || !same(d, behind) || !ok {
		t.Errorf("%v, %q: %v, %q, %t, want %v, %q", before, brief(line), d, brief(got), ok, behind, reply)
	}
}

// checkStays checks the reply to a line by which nothing changes.
func checkStays(t *testing.T, d desk, line string, reply string) {
	t.Helper()
	checkLine(t, d, line, reply, d)
}

// exampleLines are the lines of the chapter's example, with the replies to them and the desks behind them.
var exampleLines = []struct {
	line, reply, behind string
	taken               int
}{
	{"move 1>0", "3/3,2/5", "3/3,2/5", 0}, {"move 0>d", "0/3,2/5", "0/3,2/5", 0}, {"move 1>0", "2/3,0/5", "2/3,0/5", 0}, {"move t>1", "2/3,5/5", "2/3,5/5", 5},
	{"taken", "5", "2/3,5/5", 5}, {"plan 4", "1>0", "2/3,5/5", 5}, {"caps 2,3,5 7", "1,0,1", "2/3,5/5", 5}, {"rain 4 3,2,9", "0,1,2", "2/3,5/5", 5},
	{"clock 10 4", "6", "2/3,5/5", 5}, {"fly", "what", "2/3,5/5", 5},
}

func TestExampleOfConsole(t *testing.T) {
	d, script := impl.FirstDesk(), ""
	var replies []string
	for _, e := range exampleLines {
		behind := deskOf(e.behind, e.taken)
		checkLine(t, d, e.line, e.reply, behind)
		d, script, replies = behind, script+e.line+"\n", append(replies, e.reply)
		if got, ok := impl.RunScript(script); !same(got, replies) || !ok {
			t.Errorf("%q: %q, %t", script, got, ok)
		}
		if got, ok := impl.DeskAfter(script); !same(got, d) || !ok {
			t.Errorf("%q: %v, %t", script, got, ok)
		}
	}
	if got, ok := impl.FailedLines(script); !same(got, []int{10}) || !ok {
		t.Errorf("lines %v fail, %t", got, ok)
	}
}

func TestFirstDesk(t *testing.T) {
	d := impl.FirstDesk()
	if want := (desk{Vessels: vessels{Sizes: []int{3, 5}, Held: []int{0, 5}}}); !same(d, want) || !impl.IsDesk(d) {
		t.Errorf("the first desk is %v", d)
	}
	d.Vessels.Sizes[0], d.Vessels.Held[1] = mark, mark
	if again := impl.FirstDesk(); !same(again, deskOf("0/3,5/5", 0)) {
		t.Errorf("the first desk has become %v", again)
	}
}

func TestIsDesk(t *testing.T) {
	for _, s := range []string{"0/3,5/5", "0/1", "60/60,0/60,1/60,59/60,30/60", hugeVessels} {
		for _, taken := range []int{0, 1, 5, 999999, 1000000} {
			if !impl.IsDesk(deskOf(s, taken)) {
				t.Errorf("%s with %d taken: no desk", s, taken)
			}
		}
	}
	for _, d := range noDesks() {
		if impl.IsDesk(d) {
			t.Errorf("%v: a desk", d)
		}
	}
}

func TestDeskIsRequired(t *testing.T) {
	for _, d := range noDesks() {
		for _, line := range []string{"", "show", "taken", "vessels 0/1", "move t>0", "fly", "caps 2,3,5 7"} {
			checkFails(t, fmt.Sprintf("%v, %q", d, line), all(impl.DeskLine(d, line))...)
		}
	}
}

func TestLineIsRequired(t *testing.T) {
	d := deskOf("0/3,5/5", 7)
	for _, line := range []string{
		"\n", "show\n", "\nshow", "show\nshow", "show\n\n", "fly\n", "move 1>0\n", "vessels 0/1\n", "taken\r\n", " \n ", strings.Repeat("\n", 3000),
		strings.Repeat("x", 3001), strings.Repeat(" ", 3001), "rain 4 1" + strings.Repeat(",1", 1497), "vessels 0/1" + strings.Repeat(" ", 2990), strings.Repeat("x", 100000), strings.Repeat("show\n", 100000),
	} {
		checkFails(t, "a line "+brief(line), all(impl.DeskLine(d, line))...)
	}
}

func TestLongestLine(t *testing.T) {
	d := deskOf("0/3,5/5", 7)
	checkStays(t, d, strings.Repeat("x", 3000), what)
	checkStays(t, d, strings.Repeat(" ", 3000), what)
	checkStays(t, d, strings.Repeat(",", 3000), what)
	checkStays(t, d, "show"+strings.Repeat(" ", 2996), what)
	checkStays(t, d, "vessels "+strings.Repeat("0/1,", 748), what)
	long := "rain 10 1" + strings.Repeat(",1", 1495) + "0"
	if len(long) != 3000 {
		t.Fatalf("a line of %d bytes", len(long))
	}
	checkStays(t, d, long, no) // these are numbers, but more than days
	checkStays(t, d, long[:2999]+",", what)
	checkStays(t, d, "caps "+strings.Repeat("9", 2995), what)
	checkStays(t, d, "plan "+strings.Repeat("0", 2995), what)
	checkStays(t, d, "rain 5 10000"+strings.Repeat(",10000", 99), "2000"+strings.Repeat(",2000", 99))
}

// lineCase is a line with its reply, and the vessels and what is taken behind it. The desk before it has 7 taken.
type lineCase struct {
	before, line, reply string
	behind              string
	taken               int
}

func TestLinesWithAnEffect(t *testing.T) {
	for _, c := range []lineCase{
		{"0/3,5/5", "vessels 0/3,5/5", "0/3,5/5", "0/3,5/5", 0}, {"0/3,5/5", "vessels 1/2", "1/2", "1/2", 0}, {"0/1", "vessels 60/60,0/60,1/60,59/60,30/60", "60/60,0/60,1/60,59/60,30/60", "60/60,0/60,1/60,59/60,30/60", 0},
		{"0/3,5/5", "move 1>0", "3/3,2/5", "3/3,2/5", 7}, {"0/3,5/5", "move 0>1", "0/3,5/5", "0/3,5/5", 7}, {"0/3,5/5", "move 1>d", "0/3,0/5", "0/3,0/5", 7}, {"0/3,5/5", "move 0>d", "0/3,5/5", "0/3,5/5", 7},
		{"0/3,5/5", "move t>0", "3/3,5/5", "3/3,5/5", 10}, {"1/3,5/5", "move t>0", "3/3,5/5", "3/3,5/5", 9}, {"0/3,5/5", "move t>1", "0/3,5/5", "0/3,5/5", 7}, {"0/60", "move t>0", "60/60", "60/60", 67}, {"60/60", "move 0>d", "0/60", "0/60", 7},
		{"1/1,1/2,1/3,1/4,1/5", "move 4>3", "1/1,1/2,1/3,2/4,0/5", "1/1,1/2,1/3,2/4,0/5", 7}, {"1/1,1/2,1/3,1/4,1/5", "move t>4", "1/1,1/2,1/3,1/4,5/5", "1/1,1/2,1/3,1/4,5/5", 11},
		{"0/3,5/5", "swap 0 1", "5/5,0/3", "5/5,0/3", 7}, {"0/3,5/5", "swap 1 0", "5/5,0/3", "5/5,0/3", 7}, {"0/3,5/5", "swap 1 1", "0/3,5/5", "0/3,5/5", 7}, {"1/2", "swap 0 0", "1/2", "1/2", 7}, {"1/1,1/2,1/3,1/4,1/5", "swap 4 1", "1/1,1/5,1/3,1/4,1/2", "1/1,1/5,1/3,1/4,1/2", 7},
		{"0/3,5/5", "scale 1", "0/3,5/5", "0/3,5/5", 0}, {"0/3,5/5", "scale 2", "0/6,10/10", "0/6,10/10", 0}, {"0/3,5/5", "scale 12", "0/36,60/60", "0/36,60/60", 0}, {"0/1", "scale 60", "0/60", "0/60", 0}, {"1/1", "scale 60", "60/60", "60/60", 0},
	} {
		checkLine(t, deskOf(c.before, 7), c.line, c.reply, deskOf(c.behind, c.taken))
	}
}

// replyCase is a line by which nothing changes, with its reply.
type replyCase struct {
	vessels, line, reply string
}

func TestLinesAboutTheDesk(t *testing.T) {
	for _, c := range []replyCase{
		{"0/3,5/5", "show", "0/3,5/5"}, {"1/2", "show", "1/2"}, {hugeVessels, "show", hugeVessels},
		{"0/3,5/5", "taken", "7"}, {"1/2", "taken", "7"},
		{"0/3,5/5", "sum", "5"}, {"0/1", "sum", "0"}, {"60/60,60/60,60/60,60/60,60/60", "sum", "300"},
		{"0/3,5/5", "can", "t>0,1>d,1>0"}, {"0/3,0/5", "can", "t>0,t>1"}, {"3/3,5/5", "can", "0>d,1>d"}, {"1/3,2/5", "can", "t>0,t>1,0>d,0>1,1>d,1>0"}, {"0/1", "can", "t>0"}, {"1/1", "can", "0>d"}, {"1/2", "can", "t>0,0>d"},
		{"0/3,5/5", "closed", "1>0"}, {"0/3,0/5", "closed", "-"}, {"3/3,5/5", "closed", "-"}, {"1/3,2/5", "closed", "0>1,1>0"}, {"0/1", "closed", "-"}, {"1/1", "closed", "-"}, {"1/2", "closed", "-"}, {"0/1,0/2,1/3", "closed", "2>0,2>1"},
		{"0/3,5/5", "plan 4", "1>0,0>d,1>0,t>1,1>0"}, {"2/3,5/5", "plan 4", "1>0"}, {"0/3,0/5", "plan 4", "t>1,1>0,0>d,1>0,t>1,1>0"}, {"0/3,5/5", "plan 5", "-"}, {"0/3,5/5", "plan 0", "-"}, {"0/3,5/5", "plan 3", "t>0"}, {"0/3,5/5", "plan 2", "1>0"}, {"0/60", "plan 60", "t>0"}, {"60/60", "plan 60", "-"},
		{"0/3,5/5", "plan 6", no}, {"0/3,5/5", "plan 60", no}, {"0/3,5/5", "plan 61", no}, {"0/3,5/5", "plan 999999", no}, {"0/4,0/6", "plan 3", no}, {"0/4,0/6", "plan 2", "t>1,1>0"}, {hugeVessels, "plan 1", no}, {hugeVessels, "plan 30", no},
		{"0/3,5/5", "inside 2", "1>0"}, {"0/3,5/5", "inside 5", "-"}, {"0/3,5/5", "inside 0", "-"}, {"8/8,0/5,0/3", "inside 4", "0>1,1>2,2>0,1>2,0>1,1>2"}, {"0/60", "inside 0", "-"},
		{"0/3,5/5", "inside 4", no}, {"0/3,5/5", "inside 1", no}, {"0/3,0/5", "inside 3", no}, {"0/60", "inside 60", no}, {"0/3,5/5", "inside 61", no}, {"0/3,5/5", "inside 999999", no}, {hugeVessels, "inside 1", no},
		{"0/3,5/5", "states", "2"}, {"0/3,0/5", "states", "1"}, {"8/8,0/5,0/3", "states", "16"}, {"1/2", "states", "1"}, {hugeVessels, "states", no}, {"0/60,0/60,0/60,0/60,0/60", "states", "1"},
		{"0/3,5/5", "divisor", "1"}, {"0/4,6/6", "divisor", "2"}, {"0/6,0/9", "divisor", "3"}, {"1/6,0/9", "divisor", "1"}, {"0/60", "divisor", "60"}, {hugeVessels, "divisor", "1"}, {"0/60,0/60,0/60,0/60,0/60", "divisor", "60"},
	} {
		checkStays(t, deskOf(c.vessels, 7), c.line, c.reply)
	}
}

// otherLines are lines about other things than the desk, with the replies to them.
var otherLines = map[string]string{
	"siphon 10 1 8 4 3": "3,8", "siphon 10 1 8 4 0": "0,1", "siphon 1 0 1 1 1": "0,1", "siphon 60 0 60 60 60": "0,1", "siphon 60 0 1 1 60": "1,1",
	"siphon 0 0 0 0 0": no, "siphon 61 1 8 4 3": no, "siphon 10 8 8 4 3": no, "siphon 10 9 8 4 3": no, "siphon 10 1 11 4 3": no, "siphon 10 1 8 0 3": no, "siphon 10 1 8 61 3": no, "siphon 10 1 8 4 61": no, "siphon 10 1 8 4 999999": no, "siphon 999999 999999 999999 999999 999999": no,
	"caps 2,3,5 7": "1,0,1", "caps 2,3,5 0": "0,0,0", "caps 2,3,5 30": "0,0,0", "caps 2 1": "1", "caps 60 59": "59", "caps 60 60": "0", "caps 60,60,60,60,60,60 999999": "39,46,37,4,0,0", "caps 7 7": "0",
	"caps 1 7": no, "caps 61 7": no, "caps 0 7": no, "caps 2,3,1 7": no, "caps 2,2,2,2,2,2,2 7": no, "caps 999999,999999 999999": no, "caps 2,2,2,2,2,2 7": "1,1,1,0,0,0",
	"rain 4 3,2,9": "0,1,2", "rain 4 3": "0", "rain 1 10000": "10000", "rain 60 59,1": "0,1", "rain 60 0": "0",
	"rain 0 3": no, "rain 61 3": no, "rain 4 10001": no, "rain 999999 3": no, "rain 4 3,2,10001": no, "rain 4 999999": no, "rain 4 1" + strings.Repeat(",1", 100): no,
	"thin 4 1 2": "9/16", "thin 4 1 0": "1/1", "thin 4 0 50": "1/1", "thin 4 4 1": "0/1", "thin 2 1 29": "1/536870912", "thin 60 30 1": "1/2", "thin 1 0 0": "1/1", "thin 4 2 2": "1/4",
	"thin 0 0 0": no, "thin 61 1 1": no, "thin 4 5 1": no, "thin 4 1 51": no, "thin 2 1 30": no, "thin 60 1 50": no, "thin 999999 0 0": no, "thin 4 999999 0": no,
	"clock 10 4": "6", "clock 0 1": "0", "clock 1000 1": "1", "clock 1000 100": "292", "clock 1 100": "1", "clock 1001 4": no, "clock 10 0": no, "clock 10 101": no, "clock 999999 4": no, "clock 10 999999": no,
	"wheel 4 5 2 7": "2,2", "wheel 4 5 2 0": "0,0", "wheel 4 5 2 2": "0,4", "wheel 4 5 2 3": "1,0", "wheel 4 5 2 12": "0,0", "wheel 2 1 60 1": "1,0", "wheel 60 60 1 10000": "46,40", "wheel 60 60 60 59": "59,0",
	"wheel 1 5 2 7": no, "wheel 61 5 2 7": no, "wheel 4 0 2 7": no, "wheel 4 61 2 7": no, "wheel 4 5 0 7": no, "wheel 4 5 61 7": no, "wheel 4 5 2 10001": no, "wheel 4 5 2 999999": no, "wheel 999999 5 2 7": no,
}

func TestLinesAboutOtherThings(t *testing.T) {
	for line, reply := range otherLines {
		for _, s := range []string{"0/3,5/5", "0/1", hugeVessels} {
			checkStays(t, deskOf(s, 7), line, reply)
		}
	}
}

func TestLinesThatAreRefused(t *testing.T) {
	for s, lines := range map[string][]string{
		"0/3,4/5": {"move 2>0", "move 0>2", "move t>2", "move 2>d", "move 0>4", "move 4>3", "move t>4", "swap 0 2", "swap 2 0", "swap 2 2", "swap 0 999999", "swap 999999 999999", "scale 0", "scale 13", "scale 60", "scale 61", "scale 999999"},
		"1/2":     {"move 0>1", "move 1>0", "move t>1", "move 1>d", "swap 0 1", "swap 1 0", "swap 1 1", "scale 0", "scale 31", "scale 999999"},
		"60/60":   {"scale 0", "scale 2"},
	} {
		for _, line := range lines {
			checkStays(t, deskOf(s, 7), line, no)
			checkStays(t, deskOf(s, 0), line, no)
			checkStays(t, deskOf(s, impl.MaxTaken), line, no)
		}
	}
}

func TestMaxTaken(t *testing.T) {
	for _, c := range []struct {
		before string
		taken  int
		line   string
		reply  string
		behind string
		more   int
	}{
		{"0/3,5/5", 999997, "move t>0", "3/3,5/5", "3/3,5/5", 3}, {"0/3,5/5", 999998, "move t>0", no, "0/3,5/5", 0}, {"0/3,5/5", 1000000, "move t>0", no, "0/3,5/5", 0},
		{"2/3,5/5", 999999, "move t>0", "3/3,5/5", "3/3,5/5", 1}, {"2/3,5/5", 1000000, "move t>0", no, "2/3,5/5", 0}, {"0/60", 999940, "move t>0", "60/60", "60/60", 60}, {"0/60", 999941, "move t>0", no, "0/60", 0},
		{"0/3,5/5", 1000000, "move t>1", "0/3,5/5", "0/3,5/5", 0}, {"0/3,5/5", 1000000, "move 1>0", "3/3,2/5", "3/3,2/5", 0}, {"0/3,5/5", 1000000, "move 1>d", "0/3,0/5", "0/3,0/5", 0}, {"0/3,5/5", 1000000, "swap 0 1", "5/5,0/3", "5/5,0/3", 0},
		{"0/3,5/5", 1000000, "vessels 1/2", "1/2", "1/2", -1000000}, {"0/3,5/5", 1000000, "scale 2", "0/6,10/10", "0/6,10/10", -1000000}, {"0/3,5/5", 1000000, "scale 13", no, "0/3,5/5", 0},
		{"0/3,5/5", 0, "move t>0", "3/3,5/5", "3/3,5/5", 3}, {"0/3,5/5", 0, "swap 0 1", "5/5,0/3", "5/5,0/3", 0}, {"0/3,5/5", 0, "vessels 1/2", "1/2", "1/2", 0},
		{"0/3,5/5", 1000000, "taken", "1000000", "0/3,5/5", 0}, {"0/3,5/5", 999999, "taken", "999999", "0/3,5/5", 0}, {"0/3,5/5", 0, "taken", "0", "0/3,5/5", 0}, {"0/3,5/5", 1000000, "fly", what, "0/3,5/5", 0},
	} {
		checkLine(t, deskOf(c.before, c.taken), c.line, c.reply, deskOf(c.behind, c.taken+c.more))
	}
}

// rows are lines that are understood, one for each row of the chapter's table and each command in it, with the kinds of words behind the first one.
var rows = []struct {
	line, kinds string
}{
	{"vessels 1/2", "V"}, {"move 1>0", "M"}, {"swap 0 1", "NN"}, {"scale 2", "N"}, {"show", ""}, {"taken", ""}, {"sum", ""}, {"can", ""}, {"closed", ""}, {"plan 4", "N"}, {"inside 2", "N"}, {"states", ""}, {"divisor", ""},
	{"siphon 10 1 8 4 3", "NNNNN"}, {"caps 2,3,5 7", "LN"}, {"rain 4 3,2,9", "NL"}, {"thin 4 1 2", "NNN"}, {"clock 10 4", "NN"}, {"wheel 4 5 2 7", "NNNN"},
}

// noNumberWords are words that are no numbers, and noListWords those that are no lists of them.
var (
	noNumberWords = []string{
		"", "1000000", "1000001", "9999999", "9223372036854775807", "9223372036854775808", "18446744073709551616", "18446744073709551617", "-9223372036854775808", strings.Repeat("9", 100), strings.Repeat("0", 100), strings.Repeat("0", 100) + "1",
		"00", "01", "007", "0999999", "+0", "+1", "-0", "-1", "-4", "--1", "1.0", "1.", ".1", "1e1", "0x1", "0b1", "0o1", "1_0", "1'000", "1 ", " 1", "1\t", "\t1", "1\r", "1\x00", "\x00", "a", "1a", "a1", "O", "l", "t", "d", "N",
		"\u0663", "\uff11", "1\xff", "\xff", "-", "/", ",", ">", "1,", "1,2", ",1", "2,3,5", "0/3", "0/3,5/5", "1>0", "t>0", "0>d", "*", "?", "one", "no", "what",
	}
	noListWords = []string{
		"", ",", ",,", "1,", ",1", "1,,2", "1,2,", ",1,2", "2,3,5,", "2,,3,5", "1;2", "1.2", "1-2", "2/3", "1>0", "-", "--", "a", "1,a", "a,1", "2,b,3", "1000000", "2,1000000", "1000000,2", "2,1000000,3", "02", "2,03", "02,3", "00", "0,00",
		"-1", "2,-3", "-2,3", "+2", "2,+3", "2,-0", "2, 3", "2 ,3", " 2,3", "2,3 ", "2,\t3", "2,3\r", "2,3\x00", "\xff", "2,\xff", "2,\uff13", "0/3,5/5", "t,d", "1_0,2", "0x2,3", "2,9223372036854775808", "2,18446744073709551618,5", "[2,3]", "2,3,5,7,", "1e1,2",
	}
)

// noWordsOf returns words that are none of a kind and shorter than a line may be.
func noWordsOf(kind byte) []string {
	list := map[byte][]string{'N': noNumberWords, 'L': noListWords, 'V': noVesselsTexts, 'M': noMoveTexts}[kind]
	return slices.DeleteFunc(slices.Clone(list), func(word string) bool { return len(word) > 2000 || strings.Contains(word, "\n") })
}

func TestRowsAreUnderstood(t *testing.T) {
	for _, row := range rows {
		if _, reply, ok := impl.DeskLine(impl.FirstDesk(), row.line); reply == no || reply == what || !ok {
			t.Errorf("%q: %q, %t", row.line, reply, ok)
		}
		if kinds := len(strings.Split(row.line, " ")) - 1; kinds != len(row.kinds) {
			t.Errorf("%q has %d words behind the first one", row.line, kinds)
		}
	}
}

func TestWordsOfTheWrongKind(t *testing.T) {
	d := deskOf("0/3,5/5", 7)
	for _, row := range rows {
		for i := range len(row.kinds) {
			for _, word := range noWordsOf(row.kinds[i]) {
				words := strings.Split(row.line, " ")
				words[i+1] = word
				checkStays(t, d, strings.Join(words, " "), what)
			}
		}
	}
}

func TestWordsTooFewAndTooMany(t *testing.T) {
	d := deskOf("0/3,5/5", 7)
	for _, row := range rows {
		words := strings.Split(row.line, " ")
		for i := range words {
			checkStays(t, d, strings.Join(slices.Delete(slices.Clone(words), i, i+1), " "), what)
			if i > 0 {
				checkStays(t, d, strings.Join(words[:i], " "), what)
			}
		}
		for i := range len(words) + 1 {
			for _, more := range []string{"", "0", "1", "2", "7", "2,3", "1>0", "0/3,5/5", "show", "-"} {
				checkStays(t, d, strings.Join(slices.Insert(slices.Clone(words), i, more), " "), what)
			}
		}
		checkStays(t, d, row.line+" "+row.line, what)
		checkStays(t, d, row.line+","+row.line, what)
		checkStays(t, d, row.line+";", what)
	}
}

func TestBlanksAndOtherBytes(t *testing.T) {
	d := deskOf("0/3,5/5", 7)
	for _, line := range []string{"", " ", "  ", "   ", "\t", "\r", "\x00", "\v", "\u00a0", "-", ",", "no", "what", "0", "0/3,5/5", "1>0", "\xff", "\u00fc", "N", "help"} {
		checkStays(t, d, line, what)
	}
	for _, row := range rows {
		line := row.line
		for _, other := range []string{" " + line, line + " ", "  " + line, line + "  ", "\t" + line, line + "\t", line + "\r", line + "\x00", "\x00" + line, line + "\xff", "\ufeff" + line, line + "\u00a0", strings.ToUpper(line[:1]) + line[1:], strings.ToUpper(line) + "X", line + "x", "x" + line, line + ",", line[1:]} {
			checkStays(t, d, other, what)
		}
		command, _, _ := strings.Cut(line, " ")
		checkStays(t, d, strings.ToUpper(command)+line[len(command):], what)
		checkStays(t, d, command+"s"+line[len(command):], what)
		checkStays(t, d, command[:len(command)-1]+line[len(command):], what)
		if len(row.kinds) > 0 {
			checkStays(t, d, strings.Replace(line, " ", "  ", 1), what)
			checkStays(t, d, strings.ReplaceAll(line, " ", "  "), what)
			checkStays(t, d, strings.ReplaceAll(line, " ", "\t"), what)
			checkStays(t, d, strings.Replace(line, " ", "\t", 1), what)
			checkStays(t, d, strings.ReplaceAll(line, " ", ""), what)
			checkStays(t, d, strings.ReplaceAll(line, " ", ","), what)
			checkStays(t, d, strings.ReplaceAll(line, " ", "\u00a0"), what)
		}
	}
}

// A line that is not understood is not refused, also where a function would fail.
func TestNotUnderstoodComesBeforeRefused(t *testing.T) {
	d := deskOf("0/3,5/5", 7)
	for _, line := range []string{
		"swap 9 x", "swap x 9", "swap 9 9 9", "swap 9", "scale 0 0", "scale 1000000", "plan 61 x", "plan 1000000", "inside 1000000", "inside 61 1", "caps 1 x", "caps x 7", "caps 1 1000000", "caps 61,x 7", "caps 2,3,5 999999 1", "rain 0 x", "rain 61 ", "rain x 10001", "rain 4 10001,1000000",
		"thin 0 0 x", "thin 61 1", "thin 4 5 1 1", "clock 1001 x", "clock 1001", "clock x 0", "clock 1001 0 0", "wheel 1 5 2 x", "wheel 1 5 2", "wheel 1 5 2 7 7", "siphon 0 0 0 0 x", "siphon 0 0 0 0", "siphon 0 0 0 0 0 0", "siphon 10 1 8 4 1000000", "move 0>4 1", "move 0>5", "move 4>4", "states 1", "vessels 0/61", "vessels 6/5", "vessels 0/3 5/5",
	} {
		checkStays(t, d, line, what)
		checkStays(t, deskOf(hugeVessels, impl.MaxTaken), line, what)
	}
}

// Each number word takes 0 and 999999: then the function may fail, but the line is understood.
func TestLeastAndGreatestNumbers(t *testing.T) {
	d := deskOf("0/3,5/5", 7)
	for _, row := range rows {
		for i := range len(row.kinds) {
			for _, number := range []string{"0", "999999"} {
				words := strings.Split(row.line, " ")
				switch row.kinds[i] {
				case 'N':
					words[i+1] = number
				case 'L':
					words[i+1] += "," + number
				default:
					continue
				}
				if _, reply, ok := impl.DeskLine(d, strings.Join(words, " ")); reply == what || !ok {
					t.Errorf("%q: %q, %t", words, reply, ok)
				}
				words[i+1] = strings.TrimSuffix(words[i+1], number) + "1000000"
				checkStays(t, d, strings.Join(words, " "), what)
			}
		}
	}
}

// scriptCase is a script with its replies, the desk behind it and the lines that fail.
type scriptCase struct {
	script  string
	replies []string
	behind  string
	taken   int
	failed  []int
}

// checkScript checks all that is told of a script.
func checkScript(t *testing.T, s string, replies []string, behind desk, failed []int) {
	t.Helper()
	if got, ok := impl.RunScript(s); !same(got, replies) || !ok {
		t.Errorf("%q: replies %q, %t, want %q", brief(s), brief(got), ok, brief(replies))
	}
	if got, ok := impl.DeskAfter(s); !same(got, behind) || !ok {
		t.Errorf("%q: desk %v, %t, want %v", brief(s), got, ok, behind)
	}
	if got, ok := impl.FailedLines(s); !same(got, failed) || !ok {
		t.Errorf("%q: failed %v, %t, want %v", brief(s), got, ok, failed)
	}
}

func TestScripts(t *testing.T) {
	for _, c := range []scriptCase{
		{"", nil, "0/3,5/5", 0, nil},
		{"\n", []string{what}, "0/3,5/5", 0, []int{1}},
		{"\n\n\n", []string{what, what, what}, "0/3,5/5", 0, []int{1, 2, 3}},
		{"show\n", []string{"0/3,5/5"}, "0/3,5/5", 0, nil},
		{"show\ntaken\nsum\n", []string{"0/3,5/5", "0", "5"}, "0/3,5/5", 0, nil},
		{"\nshow\n\n", []string{what, "0/3,5/5", what}, "0/3,5/5", 0, []int{1, 3}},
		{"move 1>0\nswap 0 2\nmove 0>d\nscale 0\nfly\nmove 1>0\n", []string{"3/3,2/5", no, "0/3,2/5", no, what, "2/3,0/5"}, "2/3,0/5", 0, []int{2, 4, 5}},
		{"move t>0\nmove 0>d\nmove t>0\ntaken\nswap 0 1\ntaken\nscale 13\ntaken\nscale 12\ntaken\n", []string{"3/3,5/5", "0/3,5/5", "3/3,5/5", "6", "5/5,3/3", "6", no, "6", "60/60,36/36", "0"}, "60/60,36/36", 0, []int{7}},
		{"move t>0\nvessels 0/61\ntaken\nvessels 0/7\ntaken\nmove t>0\ntaken\n", []string{"3/3,5/5", what, "3", "0/7", "0", "7/7", "7"}, "7/7", 7, []int{2}},
		{"vessels 8/8,0/5,0/3\ninside 4\nstates\nclosed\ncan\nplan 9\n", []string{"8/8,0/5,0/3", "0>1,1>2,2>0,1>2,0>1,1>2", "16", "0>1,0>2", "t>1,t>2,0>d,0>1,0>2", no}, "8/8,0/5,0/3", 0, []int{6}},
		{"move 0>2\nvessels 0/1,0/1,0/1\nmove 0>2\nmove t>2\nvessels 0/1\nmove t>2\n", []string{no, "0/1,0/1,0/1", "0/1,0/1,0/1", "0/1,0/1,1/1", "0/1", no}, "0/1", 0, []int{1, 6}},
		{"show\r\nshow\n\tshow\nshow \n show\n", []string{what, "0/3,5/5", what, what, what}, "0/3,5/5", 0, []int{1, 3, 4, 5}},
		{"no\nwhat\n-\n", []string{what, what, what}, "0/3,5/5", 0, []int{1, 2, 3}},
	} {
		checkScript(t, c.script, c.replies, deskOf(c.behind, c.taken), c.failed)
	}
}

// checkNoScript checks that all functions of scripts fail.
func checkNoScript(t *testing.T, s string) {
	t.Helper()
	checkFails(t, brief(s)+": RunScript", all(impl.RunScript(s))...)
	checkFails(t, brief(s)+": DeskAfter", all(impl.DeskAfter(s))...)
	checkFails(t, brief(s)+": FailedLines", all(impl.FailedLines(s))...)
}

// noScripts returns texts that are no scripts: without a newline at the end, with too many lines, too long.
func noScripts() []string {
	return []string{
		"show", " ", "x", "\nshow", "show\nshow", "show\n\nshow", "show\n ", "show\r", "show\n\r", "\n\n\n\x00",
		strings.Repeat("\n", 51), strings.Repeat("show\n", 51), strings.Repeat("show\n", 50) + "show", strings.Repeat("show\n", 50) + " ", strings.Repeat("\n", 50) + "\n", strings.Repeat("\n", 3000), strings.Repeat("\n", 3001), strings.Repeat("show\n", 600), strings.Repeat("x", 3000), strings.Repeat("x", 2999) + "\nx",
		strings.Repeat("x", 3000) + "\n", strings.Repeat("x", 3001), strings.Repeat(strings.Repeat("x", 59)+"\n", 50) + "\n", strings.Repeat(strings.Repeat("x", 59)+"\n", 49) + strings.Repeat("x", 60) + "\n", strings.Repeat("show\n", 100000), strings.Repeat("x", 100000), strings.Repeat("x", 100000) + "\n",
	}
}

func TestNoScripts(t *testing.T) {
	for _, s := range noScripts() {
		checkNoScript(t, s)
	}
}

func TestLongestScripts(t *testing.T) {
	whats := slices.Repeat([]string{what}, 50)
	counted := make([]int, 50)
	for i := range counted {
		counted[i] = i + 1
	}
	for count := range 51 {
		checkScript(t, strings.Repeat("\n", count), whats[:count], impl.FirstDesk(), counted[:count])
		checkScript(t, strings.Repeat("sum\n", count), slices.Repeat([]string{"5"}, count), impl.FirstDesk(), nil)
	}
	checkScript(t, strings.Repeat("x", 2999)+"\n", whats[:1], impl.FirstDesk(), counted[:1])
	checkScript(t, strings.Repeat(strings.Repeat("x", 59)+"\n", 50), whats, impl.FirstDesk(), counted)
	full := strings.Repeat("move t>0\nmove 0>d\n", 24)
	full += "rain 1 1" + strings.Repeat(",1", (3000-len(full)-10)/2) + "\n"
	full += strings.Repeat("x", 3000-len(full)-1) + "\n"
	if len(full) != 3000 || strings.Count(full, "\n") != 50 {
		t.Fatalf("a script of %d bytes with %d lines", len(full), strings.Count(full, "\n"))
	}
	checkScript(t, full, append(slices.Repeat([]string{"3/3,5/5", "0/3,5/5"}, 24), no, what), deskOf("0/3,5/5", 72), []int{49, 50})
	checkNoScript(t, "x"+full)
}

// Lines that fail, put between lines that do not, change none of the other replies and not the desk behind them.
func TestLinesThatFailChangeNothing(t *testing.T) {
	failing := []string{"fly", "", " ", "swap 0 9", "scale 0", "scale 61", "move 4>0", "move t>4", "move 4>d", "vessels 0/61", "move 0>0", "plan 61", "show ", "thin 0 0 0", "rain 4 ", "SHOW"}
	r := drawn()
	for range 200 {
		var plain, mixed, wantMixed []string
		var failed []int
		for range 1 + r.Intn(12) {
			for range r.Intn(3) {
				mixed = append(mixed, failing[r.Intn(len(failing))])
				failed = append(failed, len(mixed))
			}
			line := drawnEffect(r)
			plain, mixed = append(plain, line), append(mixed, line)
		}
		replies, ok := impl.RunScript(scriptOf(plain))
		behind, fine := impl.DeskAfter(scriptOf(plain))
		if none, good := impl.FailedLines(scriptOf(plain)); len(none) > 0 || !ok || !fine || !good {
			t.Fatalf("%q: %v fail, %t, %t, %t", plain, none, ok, fine, good)
		}
		got, _ := impl.RunScript(scriptOf(mixed))
		for i, reply := range got {
			if !slices.Contains(failed, i+1) {
				wantMixed = append(wantMixed, reply)
			} else if reply != no && reply != what {
				t.Fatalf("%q: reply %q", mixed[i], reply)
			}
		}
		if after, _ := impl.DeskAfter(scriptOf(mixed)); !same(replies, wantMixed) || !same(after, behind) {
			t.Fatalf("%q: %q and %v, want %q and %v", mixed, wantMixed, after, replies, behind)
		}
		if lines, ok := impl.FailedLines(scriptOf(mixed)); !same(lines, failed) || !ok {
			t.Fatalf("%q: %v fail, %t, want %v", mixed, lines, ok, failed)
		}
	}
}

// scriptOf returns the script with these lines.
func scriptOf(lines []string) string {
	s := ""
	for _, line := range lines {
		s += line + "\n"
	}
	return s
}

// drawnEffect returns a line that does not fail on a desk of two vessels of at most 5, one after the other.
func drawnEffect(r *rand.Rand) string {
	lines := []string{"vessels 0/3,5/5", "vessels 1/4,2/5", "move 0>1", "move 1>0", "move t>0", "move t>1", "move 0>d", "move 1>d", "swap 0 1", "swap 1 0", "scale 1", "show", "taken", "sum", "can", "closed", "divisor", "states"}
	return lines[r.Intn(len(lines))]
}
