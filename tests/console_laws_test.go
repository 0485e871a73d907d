package tests

import (
	"fmt"
	"math/rand"
	"regexp"
	"strconv"
	"strings"
	"testing"

	"loop.example/g01208/impl"
)

// lineForms are the forms of the lines that are understood, for each row of the chapter's table: N stands for a number, L for a list, V and M for the texts of vessels and of moves.
var lineForms = formsOf(
	"vessels V", "move M", "swap N N", "scale N", "show", "taken", "sum", "can", "closed", "plan N", "inside N", "states", "divisor",
	"siphon N N N N N", "caps L N", "rain N L", "thin N N N", "clock N N", "wheel N N N N",
)

// formsOf returns what the whole of a line has to match.
func formsOf(rows ...string) []*regexp.Regexp {
	number := `(0|[1-9][0-9]{0,5})`
	kinds := strings.NewReplacer("N", number, "L", number+`(,`+number+`)*`, "V", `[0-9]+/[0-9]+(,[0-9]+/[0-9]+){0,4}`, "M", `([0-4]|t)>([0-4]|d)`)
	var forms []*regexp.Regexp
	for _, row := range rows {
		forms = append(forms, regexp.MustCompile(`\A`+kinds.Replace(row)+`\z`))
	}
	return forms
}

// isUnderstood reports whether a line is understood.
func isUnderstood(line string) bool {
	first, rest, _ := strings.Cut(line, " ")
	for _, form := range lineForms {
		if form.MatchString(line) {
			return first == "vessels" && isVesselsText(rest) || first == "move" && rest[:1] != rest[2:] && rest != "t>d" || first != "vessels" && first != "move"
		}
	}
	return false
}

// listed returns a list as a reply has it.
func listed[E any](list []E) string {
	if len(list) == 0 {
		return "-"
	}
	return strings.ReplaceAll(strings.Trim(fmt.Sprint(list), "[]"), " ", ",")
}

// movesListed returns moves as a reply has them.
func movesListed(moves []move) string {
	var texts []string
	for _, m := range moves {
		from, to := strconv.Itoa(m.From), strconv.Itoa(m.To)
		if m.From == tap {
			from = "t"
		}
		if m.To == drain {
			to = "d"
		}
		texts = append(texts, from+">"+to)
	}
	return listed(texts)
}

// numbersIn returns the numbers of a line with a form of numbers and lists alone: those of its words, lists in their place.
func numbersIn(line string) [][]int {
	var numbers [][]int
	for _, word := range strings.Split(line, " ")[1:] {
		var list []int
		for _, element := range strings.Split(word, ",") {
			n, _ := strconv.Atoi(element)
			list = append(list, n)
		}
		numbers = append(numbers, list)
	}
	return numbers
}

// consoleWork is a second way through a line: its form tells whether it is understood, and the calls that it names are made here.
func consoleWork(d desk, line string) (desk, string) {
	if !isUnderstood(line) {
		return d, what
	}
	behind, reply, ok := changeWork(d, line)
	if reply == "" && ok {
		reply = written(behind.Vessels)
	}
	if !ok || behind.Taken > 1000000 {
		return d, no
	}
	return behind, reply
}

// changeWork returns the desk behind a line that changes it, with no reply, or the reply to another line.
func changeWork(d desk, line string) (desk, string, bool) {
	first, rest, _ := strings.Cut(line, " ")
	switch first {
	case "vessels":
		v, ok := impl.ParseVessels(rest)
		return desk{Vessels: v}, "", ok
	case "move":
		m, _ := impl.ParseMove(rest)
		v, ok := impl.MakeMoves(d.Vessels, []move{m})
		taken, _, _ := impl.TakenIn(d.Vessels, []move{m})
		return desk{Vessels: v, Taken: d.Taken + taken}, "", ok
	case "swap":
		numbers := numbersIn(line)
		v, ok := impl.SwapVessels(d.Vessels, numbers[0][0], numbers[1][0])
		return desk{Vessels: v, Taken: d.Taken}, "", ok
	case "scale":
		v, ok := impl.ScaleVessels(d.Vessels, numbersIn(line)[0][0])
		return desk{Vessels: v}, "", ok
	case "taken":
		return d, strconv.Itoa(d.Taken), true
	case "show":
		return d, written(d.Vessels), true
	}
	reply, ok := questionWork(d.Vessels, first, numbersIn(line))
	return d, reply, ok
}

// questionWork returns the reply to a line that changes nothing.
func questionWork(v vessels, first string, n [][]int) (string, bool) {
	switch first {
	case "sum":
		sum, ok := impl.SumHeld(v)
		return strconv.Itoa(sum), ok
	case "can", "closed":
		moves, ok := impl.MovesOn(v, first == "closed")
		return movesListed(moves), ok
	case "plan", "inside":
		moves, ok := impl.PlanToAmount(v, n[0][0], first == "inside")
		return movesListed(moves), ok
	case "states":
		count, ok := impl.CountStates(v, true)
		return strconv.Itoa(count), ok
	case "divisor":
		divisor, ok := impl.DivisorOf(v)
		return strconv.Itoa(divisor), ok
	case "siphon":
		before, again, ok := impl.PeriodOfSiphon(siphon{Size: n[0][0], Low: n[1][0], Start: n[2][0], Flow: n[3][0]}, n[4][0])
		return listed([]int{before, again}), ok
	case "caps":
		held, ok := impl.HeldAfter(n[0], n[1][0])
		return listed(held), ok
	case "rain":
		tips, ok := impl.TipsOfRain(n[0][0], n[1])
		return listed(tips), ok
	case "thin":
		share, ok := impl.ThinShare(n[0][0], n[1][0], n[2][0])
		return fmt.Sprintf("%d/%d", share.Num, share.Den), ok
	case "clock":
		ticks, ok := impl.TimeToEmpty(clockWith(n[0][0], n[1][0]))
		return strconv.Itoa(ticks), ok
	case "wheel":
		scoop, held, ok := impl.WheelAfter(wheelWith(n[0][0], n[1][0], n[2][0]), n[3][0])
		return listed([]int{scoop, held}), ok
	}
	return "no row", false
}

// drawnNumber returns a number that is drawn, most often a small one.
func drawnNumber(r *rand.Rand, most int) string {
	switch r.Intn(12) {
	case 0:
		return "0"
	case 1:
		return []string{"999999", "1000000", "61", "60", "10001", "10000", "1001", "1000", "00", "+1", "-1", ""}[r.Intn(12)]
	}
	return strconv.Itoa(r.Intn(most + 1))
}

// drawnList returns a list of numbers that is drawn.
func drawnList(r *rand.Rand, least int, most int) string {
	var words []string
	for range 1 + r.Intn(6) {
		words = append(words, strconv.Itoa(least+r.Intn(most-least+1)))
	}
	if r.Intn(20) == 0 {
		words[r.Intn(len(words))] = drawnNumber(r, most)
	}
	return strings.Join(words, ",")
}

// drawnVessels returns a text of vessels that is drawn.
func drawnVessels(r *rand.Rand) string {
	most := []int{3, 8, 60}[r.Intn(3)]
	var words []string
	for range 1 + r.Intn(3) {
		size := 1 + r.Intn(most)
		words = append(words, fmt.Sprintf("%d/%d", r.Intn(size+1), size))
	}
	return strings.Join(words, ",")
}

// drawnEnds returns a text of a move that is drawn, or one that is nearly one.
func drawnEnds(r *rand.Rand) string {
	return string("01t0122t34"[r.Intn(10)]) + ">" + string("01d0d12d34"[r.Intn(10)])
}

// drawnLine returns a line that is drawn: most often one that is understood, and sometimes one with bytes of it left out, doubled, or replaced.
func drawnLine(r *rand.Rand) string {
	n := func(most int) string { return " " + drawnNumber(r, most) }
	lines := []func() string{
		func() string { return "vessels " + drawnVessels(r) },
		func() string { return "move " + drawnEnds(r) },
		func() string { return "swap" + n(2) + n(2) },
		func() string { return "scale" + n(3) },
		func() string { return []string{"show", "taken", "sum", "can", "closed"}[r.Intn(5)] },
		func() string { return []string{"states", "divisor"}[r.Intn(2)] },
		func() string { return "plan" + n(9) },
		func() string { return "inside" + n(9) },
		func() string { return "siphon" + n(60) + n(10) + n(40) + n(60) + n(60) },
		func() string { return "caps " + drawnList(r, 2, 9) + n(2000) },
		func() string { return "rain" + n(20) + " " + drawnList(r, 0, 90) },
		func() string { return "thin" + n(20) + n(8) + n(6) },
		func() string { return "clock" + n(1000) + n(100) },
		func() string { return "wheel" + n(60) + n(60) + n(60) + n(10000) },
	}
	line := lines[r.Intn(len(lines))]()
	if r.Intn(4) == 0 {
		line = "move " + drawnEnds(r)
	}
	if r.Intn(8) > 0 {
		return line
	}
	const others = " ,/>0123456789tdx\t\xff"
	i, j := r.Intn(len(line)), r.Intn(len(others))
	switch r.Intn(4) {
	case 0:
		return line[:i] + line[i+1:]
	case 1:
		return line[:i+1] + line[i:]
	case 2:
		return line[:i] + others[j:j+1] + line[i+1:]
	}
	return line[:i]
}

// Each line does on any desk what the calls do that it names.
func TestDrawnLinesAgree(t *testing.T) {
	r := drawn()
	outcomes := map[string]int{}
	for range 60000 {
		d := deskOf(drawnVessels(r), []int{0, r.Intn(1000001), impl.MaxTaken - r.Intn(70), impl.MaxTaken}[r.Intn(4)])
		line := drawnLine(r)
		want, reply := consoleWork(d, line)
		if behind, got, ok := impl.DeskLine(d, line); got != reply || !same(behind, want) || !ok {
			t.Fatalf("%v, %q: %v, %q, %t, want %v, %q", d, line, behind, got, ok, want, reply)
		}
		if !impl.IsDesk(want) {
			t.Fatalf("%v, %q: %v is no desk", d, line, want)
		}
		first, _, _ := strings.Cut(line, " ")
		switch reply {
		case what, no:
			outcomes[first+" "+reply]++
		default:
			outcomes[first]++
		}
	}
	checkOutcomes(t, outcomes, 20)
}

// checkOutcomes checks that of each row lines were drawn that succeed, that are refused if its function can fail, and that are not understood.
func checkOutcomes(t *testing.T, outcomes map[string]int, least int) {
	t.Helper()
	neverRefused := " vessels show taken sum can closed divisor states "
	for _, row := range rows {
		first, _, _ := strings.Cut(row.line, " ")
		if outcomes[first] < least {
			t.Errorf("only %d lines %s succeed", outcomes[first], first)
		}
		if !strings.Contains(neverRefused, " "+first+" ") && outcomes[first+" no"] < least {
			t.Errorf("only %d lines %s are refused", outcomes[first+" no"], first)
		}
		if row.kinds != "" && outcomes[first+" what"] < least/4 {
			t.Errorf("only %d lines %s are not understood", outcomes[first+" what"], first)
		}
	}
}

// A script does, from the first desk on, what its lines do one after the other.
func TestDrawnScriptsAgree(t *testing.T) {
	r := drawn()
	effects := 0
	for range 3000 {
		var lines []string
		for range r.Intn(impl.MaxLines + 1) {
			lines = append(lines, drawnLine(r))
		}
		s := scriptOf(lines)
		if len(s) > impl.MaxScript {
			checkNoScript(t, s)
			continue
		}
		d, second := impl.FirstDesk(), impl.FirstDesk()
		var replies []string
		var failed []int
		for i, line := range lines {
			behind, reply, ok := impl.DeskLine(d, line)
			work, wanted := consoleWork(second, line)
			if !ok || reply != wanted || !same(behind, work) {
				t.Fatalf("%q, line %d: %v, %q, %t, want %v, %q", s, i+1, behind, reply, ok, work, wanted)
			}
			if reply == no || reply == what {
				failed = append(failed, i+1)
				if !same(behind, d) {
					t.Fatalf("%q, line %d: %q, but %v has become %v", s, i+1, reply, d, behind)
				}
			}
			if !same(behind, d) {
				effects++
			}
			d, second, replies = behind, work, append(replies, reply)
		}
		checkScript(t, s, replies, d, failed)
		if len(lines) > 0 && lines[len(lines)-1] != "" {
			checkNoScript(t, strings.TrimSuffix(s, "\n"))
		}
	}
	if effects < 1000 {
		t.Errorf("only %d lines have an effect", effects)
	}
}

// All lines of few words out of some words, of all kinds and of none.
func TestLinesOfAllWordsAgree(t *testing.T) {
	words := []string{"", "vessels", "move", "swap", "scale", "show", "taken", "sum", "can", "closed", "plan", "inside", "states", "divisor", "siphon", "caps", "rain", "thin", "clock", "wheel", "fly", "Show", "0", "1", "2", "7", "01", "1000000", "2,3", "2,", "0/1", "1/0", "1>0", "t>0", "t>d", "0>4", "-"}
	desks := []desk{deskOf("0/3,5/5", 7), deskOf("2/4,1/6,0/2", impl.MaxTaken)}
	check := func(line string) {
		for _, d := range desks {
			want, reply := consoleWork(d, line)
			if behind, got, ok := impl.DeskLine(d, line); got != reply || !same(behind, want) || !ok {
				t.Fatalf("%v, %q: %v, %q, %t, want %v, %q", d, line, behind, got, ok, want, reply)
			}
		}
	}
	for _, a := range words {
		check(a)
		for _, b := range words {
			check(a + " " + b)
			for _, c := range words {
				check(a + " " + b + " " + c)
				check(a + " " + b + " 1 " + c)
			}
		}
	}
}

// All short texts of the bytes of numbers and lists, in the place of each.
func TestShortWordsAgree(t *testing.T) {
	d := deskOf("0/3,5/5", 7)
	eachText("019,- +", 4, func(s string) {
		for _, line := range []string{"plan " + s, "caps " + s + " 7", "rain 4 " + s, "clock " + s + " 3", "clock 9 " + s, s} {
			want, reply := consoleWork(d, line)
			if behind, got, ok := impl.DeskLine(d, line); got != reply || !same(behind, want) || !ok {
				t.Fatalf("%q: %v, %q, %t, want %v, %q", line, behind, got, ok, want, reply)
			}
		}
	})
	eachText("0>/dt,4", 4, func(s string) {
		for _, line := range []string{"vessels " + s, "move " + s} {
			want, reply := consoleWork(d, line)
			if behind, got, ok := impl.DeskLine(d, line); got != reply || !same(behind, want) || !ok {
				t.Fatalf("%q: %v, %q, %t, want %v, %q", line, behind, got, ok, want, reply)
			}
		}
	})
}

// All words of one byte, and all bytes in the place of a blank, a comma, a newline.
func TestAllBytesAgree(t *testing.T) {
	d := deskOf("0/3,5/5", 7)
	for b := range 256 {
		other := string([]byte{byte(b)})
		for _, line := range []string{other, "plan" + other + "4", "plan 4" + other, other + "plan 4", "caps 2" + other + "3 7", "caps 2,3" + other + "7", "move 1" + other + "0", "vessels 1" + other + "2", "show" + other, "thin 4 1" + other + "2"} {
			if b == '\n' {
				checkFails(t, line, all(impl.DeskLine(d, line))...)
				continue
			}
			want, reply := consoleWork(d, line)
			checkLine(t, d, line, reply, want)
			checkScript(t, line+"\nshow\n", append([]string{scriptReply(line)}, scriptReply(line+"\nshow")), scriptDesk(line), failedIn(line))
		}
		if b != '\n' {
			checkNoScript(t, "show"+other)
			checkNoScript(t, "show\nshow"+other)
		}
	}
}

// scriptReply returns the reply to the last of the lines of a text on the first desk.
func scriptReply(lines string) string {
	d, reply := impl.FirstDesk(), ""
	for _, line := range strings.Split(lines, "\n") {
		d, reply = consoleWork(d, line)
	}
	return reply
}

// scriptDesk returns the desk behind a line on the first desk.
func scriptDesk(line string) desk {
	d, _ := consoleWork(impl.FirstDesk(), line)
	return d
}

// failedIn returns the numbers of the lines that fail in a script of a line and another one that does not.
func failedIn(line string) []int {
	if reply := scriptReply(line); reply == no || reply == what {
		return []int{1}
	}
	return nil
}
