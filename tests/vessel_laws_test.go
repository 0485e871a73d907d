package tests

import (
	"regexp"
	"strconv"
	"strings"
	"testing"

	"loop.example/g01208/impl"
)

// poured is a second way to a move: water goes over unit by unit as long as it can.
func poured(v vessels, m move) (vessels, int) {
	w := vessels{Sizes: append([]int(nil), v.Sizes...), Held: append([]int(nil), v.Held...)}
	amount := 0
	for (m.From == tap || w.Held[m.From] > 0) && (m.To == drain || w.Held[m.To] < w.Sizes[m.To]) {
		if m.From != tap {
			w.Held[m.From]--
		}
		if m.To != drain {
			w.Held[m.To]++
		}
		amount++
	}
	return w, amount
}

// eachSmallVessels calls f with all vessels of one to three small sizes.
func eachSmallVessels(f func(v vessels)) {
	eachVessels(1, 8, f)
	eachVessels(2, 5, f)
	eachVessels(3, 3, f)
}

func TestPouringsAgree(t *testing.T) {
	eachSmallVessels(func(v vessels) {
		eachMove(len(v.Sizes), func(m move) {
			want, amount := poured(v, m)
			if got, ok := impl.AmountOf(v, m); got != amount || !ok {
				t.Fatalf("%v %v: amount %d, %t, want %d", v, m, got, ok, amount)
			}
			if got, ok := impl.MakeMove(v, m); !same(got, want) || !ok {
				t.Fatalf("%v %v: %v, %t, want %v", v, m, got, ok, want)
			}
			if is, ok := impl.IsMove(v, m); !is || !ok {
				t.Fatalf("%v %v: no move", v, m)
			}
		})
	})
}

func TestPouringsKeepWater(t *testing.T) {
	eachSmallVessels(func(v vessels) {
		sum, _ := impl.SumHeld(v)
		var moves []move
		eachMove(len(v.Sizes), func(m move) { moves = append(moves, m) })
		for first := range moves {
			checkWaterAlong(t, v, sum, append(append([]move(nil), moves[first:]...), moves[:first]...))
		}
	})
}

// checkWaterAlong checks that what vessels hold changes by what the tap gives and the drain takes, and that the functions of lists of moves agree.
func checkWaterAlong(t *testing.T, v vessels, sum int, moves []move) {
	states, ok := impl.StatesAlong(v, moves)
	if !ok || len(states) != len(moves)+1 || !same(states[0], v) {
		t.Fatalf("%v %v: StatesAlong %v, %t", v, moves, states, ok)
	}
	given, lost := 0, 0
	for i, m := range moves {
		w, amount := poured(states[i], m)
		if !same(w, states[i+1]) {
			t.Fatalf("%v %v: behind %d moves %v, want %v", v, moves, i+1, states[i+1], w)
		}
		if m.From == tap {
			given += amount
		}
		if m.To == drain {
			lost += amount
		}
	}
	a, b, ok := impl.TakenIn(v, moves)
	if a != given || b != lost || !ok {
		t.Fatalf("%v %v: TakenIn %d, %d, %t, want %d, %d", v, moves, a, b, ok, given, lost)
	}
	end, ok := impl.MakeMoves(v, moves)
	rest, fine := impl.SumHeld(end)
	if !ok || !fine || !same(end, states[len(moves)]) || rest != sum+a-b {
		t.Fatalf("%v %v: MakeMoves %v, %t: %d, want %d", v, moves, end, ok, rest, sum+a-b)
	}
}

func TestMovesOnAreThoseWithAnAmount(t *testing.T) {
	eachSmallVessels(func(v vessels) {
		var open, closed []move
		eachMove(len(v.Sizes), func(m move) {
			if _, amount := poured(v, m); amount > 0 {
				open = append(open, m)
				if m.From != tap && m.To != drain {
					closed = append(closed, m)
				}
			}
		})
		if got, ok := impl.MovesOn(v, false); !same(got, open) || !ok {
			t.Fatalf("%v: %v, %t, want %v", v, got, ok, open)
		}
		if got, ok := impl.MovesOn(v, true); !same(got, closed) || !ok {
			t.Fatalf("%v closed: %v, %t, want %v", v, got, ok, closed)
		}
	})
}

func TestUndoneBySomeMove(t *testing.T) {
	eachSmallVessels(func(v vessels) {
		eachMove(len(v.Sizes), func(m move) {
			w, _ := poured(v, m)
			want := false
			eachMove(len(v.Sizes), func(back move) {
				again, _ := poured(w, back)
				want = want || same(again, v)
			})
			if is, ok := impl.IsUndone(v, m); is != want || !ok {
				t.Fatalf("%v %v: %t, %t, want %t", v, m, is, ok, want)
			}
		})
	})
}

func TestScalesGoBack(t *testing.T) {
	eachSmallVessels(func(v vessels) {
		least, divisor, ok := impl.LeastScale(v)
		back, fine := impl.ScaleVessels(least, divisor)
		if !ok || !fine || !same(back, v) {
			t.Fatalf("%v: %v, %d and back %v", v, least, divisor, back)
		}
		for k := 1; k <= 61; k++ {
			checkScale(t, v, k, least, divisor)
		}
	})
}

func checkScale(t *testing.T, v vessels, k int, least vessels, divisor int) {
	scaled, ok := impl.ScaleVessels(v, k)
	fits := true
	for _, size := range v.Sizes {
		fits = fits && size*k <= impl.MaxSize
	}
	if ok != fits {
		t.Fatalf("%v times %d: %v, %t, want %t", v, k, scaled, ok, fits)
	}
	if !fits {
		return
	}
	for i := range v.Sizes {
		if scaled.Sizes[i] != k*v.Sizes[i] || scaled.Held[i] != k*v.Held[i] {
			t.Fatalf("%v times %d: %v", v, k, scaled)
		}
	}
	if w, d, ok := impl.LeastScale(scaled); !ok || d != k*divisor || !same(w, least) {
		t.Fatalf("%v: least scale %v, %d, want %v, %d", scaled, w, d, least, k*divisor)
	}
}

func TestSwapsGoBack(t *testing.T) {
	eachSmallVessels(func(v vessels) {
		for i := range v.Sizes {
			for j := range v.Sizes {
				w, ok := impl.SwapVessels(v, i, j)
				back, fine := impl.SwapVessels(w, j, i)
				if !ok || !fine || !same(back, v) || w.Sizes[i] != v.Sizes[j] || w.Held[i] != v.Held[j] {
					t.Fatalf("%v %d %d: %v and back %v", v, i, j, w, back)
				}
			}
		}
	})
}

func TestTextsAreReadBack(t *testing.T) {
	check := func(v vessels) {
		s, ok := impl.VesselsText(v)
		back, fine := impl.ParseVessels(s)
		if !ok || !fine || !same(back, v) {
			t.Fatalf("%v: %q is read as %v", v, s, back)
		}
	}
	eachSmallVessels(check)
	eachVessels(1, impl.MaxSize, check)
	eachMove(impl.MaxVessels, func(m move) {
		s, ok := impl.MoveText(m)
		back, fine := impl.ParseMove(s)
		if !ok || !fine || back != m {
			t.Fatalf("%v: %q is read as %v", m, s, back)
		}
	})
}

// eachText calls f with all texts of at most so many of the given bytes.
func eachText(bytes string, most int, f func(s string)) {
	f("")
	if most == 0 {
		return
	}
	for i := range len(bytes) {
		eachText(bytes, most-1, func(s string) {
			f(bytes[i:i+1] + s)
		})
	}
}

var (
	vesselsForm = regexp.MustCompile(`^(0|[1-9][0-9]*)/[1-9][0-9]*(,(0|[1-9][0-9]*)/[1-9][0-9]*){0,4}$`)
	moveForm    = regexp.MustCompile(`^([0-4]|t)>([0-4]|d)$`)
)

func isVesselsText(s string) bool {
	if !vesselsForm.MatchString(s) {
		return false
	}
	for _, word := range strings.Split(s, ",") {
		held, size, _ := strings.Cut(word, "/")
		h, _ := strconv.Atoi(held)
		n, _ := strconv.Atoi(size)
		if h > n || n > impl.MaxSize {
			return false
		}
	}
	return true
}

func TestOnlyVesselsTextsAreRead(t *testing.T) {
	eachText("016/,+ ", 6, func(s string) {
		v, ok := impl.ParseVessels(s)
		if ok != isVesselsText(s) || ok && written(v) != s || !ok && !isZero(v) {
			t.Fatalf("%q: %v, %t", s, v, ok)
		}
	})
}

func TestOnlyMoveTextsAreRead(t *testing.T) {
	eachText("01245td>-+ ", 4, func(s string) {
		m, ok := impl.ParseMove(s)
		want := moveForm.MatchString(s) && s != "t>d" && s[0] != s[len(s)-1]
		if ok != want || !ok && !isZero(m) {
			t.Fatalf("%q: %v, %t, want %t", s, m, ok, want)
		}
		if back, fine := impl.MoveText(m); ok && (back != s || !fine) {
			t.Fatalf("%q is written as %q", s, back)
		}
	})
}
