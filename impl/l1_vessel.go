package impl

import (
	"strconv"
	"strings"
)

const MaxVessels = 5
const MaxSize = 60
const MaxMoves = 100

type Vessels struct {
	Sizes []int
	Held  []int
}

type Move struct {
	From int
	To   int
}

// outside is the number that stands for the tap as From and for the drain as To.
const outside = -1

// holding is what vessels hold. It is an array, so that it is copied as a value, compared, and a key of a map.
type holding [MaxVessels]int

// AreVessels reports whether v, whose numbers may be any, are vessels.
func AreVessels(v Vessels) bool {
	count := len(v.Sizes)
	if count < 1 || count > MaxVessels || len(v.Held) != count {
		return false
	}
	for i, size := range v.Sizes {
		if size < 1 || size > MaxSize || v.Held[i] < 0 || v.Held[i] > size {
			return false
		}
	}
	return true
}

// SumHeld returns how much all vessels hold together.
func SumHeld(v Vessels) (int, bool) {
	if !AreVessels(v) {
		return 0, false
	}
	sum := 0
	for _, amount := range v.Held {
		sum += amount
	}
	return sum, true
}

// RoomIn returns how much a vessel can take in.
func RoomIn(v Vessels, i int) (int, bool) {
	if !AreVessels(v) || !isIndex(v, i) {
		return 0, false
	}
	return v.Sizes[i] - v.Held[i], true
}

// IsMove reports whether m, whose numbers may be any, is a move of the vessels.
func IsMove(v Vessels, m Move) (bool, bool) {
	if !AreVessels(v) {
		return false, false
	}
	return isMoveAmong(len(v.Sizes), m), true
}

// AmountOf returns the amount of a move.
func AmountOf(v Vessels, m Move) (int, bool) {
	if !AreVessels(v) || !isMoveAmong(len(v.Sizes), m) {
		return 0, false
	}
	return amountIn(v.Sizes, holdingOf(v), m), true
}

// MakeMove returns the vessels behind a move.
func MakeMove(v Vessels, m Move) (Vessels, bool) {
	if !AreVessels(v) || !isMoveAmong(len(v.Sizes), m) {
		return Vessels{}, false
	}
	return vesselsWith(v.Sizes, pour(v.Sizes, holdingOf(v), m)), true
}

// MakeMoves returns them behind moves, one after the other.
func MakeMoves(v Vessels, moves []Move) (Vessels, bool) {
	states, ok := holdingsAlong(v, moves)
	if !ok {
		return Vessels{}, false
	}
	return vesselsWith(v.Sizes, states[len(moves)]), true
}

// StatesAlong returns the vessels before and behind each move.
func StatesAlong(v Vessels, moves []Move) ([]Vessels, bool) {
	states, ok := holdingsAlong(v, moves)
	if !ok {
		return nil, false
	}
	along := make([]Vessels, len(states))
	for i, h := range states {
		along[i] = vesselsWith(v.Sizes, h)
	}
	return along, true
}

// TakenIn returns how much comes from the tap, and how much goes to the drain, in all moves of a list.
func TakenIn(v Vessels, moves []Move) (int, int, bool) {
	states, ok := holdingsAlong(v, moves)
	if !ok {
		return 0, 0, false
	}
	tap, drain := 0, 0
	for i, m := range moves {
		amount := amountIn(v.Sizes, states[i], m)
		switch {
		case m.From == outside:
			tap += amount
		case m.To == outside:
			drain += amount
		}
	}
	return tap, drain, true
}

// MovesOn returns all moves with an amount of at least 1, ordered by From, then by To; without tap and drain if closed is told.
func MovesOn(v Vessels, closed bool) ([]Move, bool) {
	if !AreVessels(v) {
		return nil, false
	}
	h := holdingOf(v)
	var moves []Move
	for _, m := range movesAmong(len(v.Sizes), closed) {
		if amountIn(v.Sizes, h, m) > 0 {
			moves = append(moves, m)
		}
	}
	return moves, true
}

// IsUndone reports whether some single move brings the vessels back as they were before a move: so also where its amount is 0.
func IsUndone(v Vessels, m Move) (bool, bool) {
	if !AreVessels(v) || !isMoveAmong(len(v.Sizes), m) {
		return false, false
	}
	before := holdingOf(v)
	next := holdingsBehind(v.Sizes, pour(v.Sizes, before, m))
	return next[before], true
}

// SwapVessels returns the vessels with two of them exchanged, size and amount.
func SwapVessels(v Vessels, i int, j int) (Vessels, bool) {
	if !AreVessels(v) || !isIndex(v, i) || !isIndex(v, j) {
		return Vessels{}, false
	}
	swapped := vesselsWith(v.Sizes, holdingOf(v))
	swapped.Sizes[i], swapped.Sizes[j] = swapped.Sizes[j], swapped.Sizes[i]
	swapped.Held[i], swapped.Held[j] = swapped.Held[j], swapped.Held[i]
	return swapped, true
}

// ScaleVessels returns the vessels with all sizes and amounts times k, k at least 1. It fails if these are no vessels.
func ScaleVessels(v Vessels, k int) (Vessels, bool) {
	// A size is at least 1, so that a greater k is always too much; the products below cannot wrap around then.
	if !AreVessels(v) || k < 1 || k > MaxSize {
		return Vessels{}, false
	}
	scaled := vesselsWith(v.Sizes, holdingOf(v))
	for i := range scaled.Sizes {
		scaled.Sizes[i] *= k
		scaled.Held[i] *= k
	}
	if !AreVessels(scaled) {
		return Vessels{}, false
	}
	return scaled, true
}

// LeastScale returns the vessels with all sizes and amounts divided by their greatest common divisor, and this.
func LeastScale(v Vessels) (Vessels, int, bool) {
	if !AreVessels(v) {
		return Vessels{}, 0, false
	}
	divisor := commonDivisor(v)
	least := vesselsWith(v.Sizes, holdingOf(v))
	for i := range least.Sizes {
		least.Sizes[i] /= divisor
		least.Held[i] /= divisor
	}
	return least, divisor, true
}

// VesselsText returns for each vessel the amount, / and the size, with , between them.
func VesselsText(v Vessels) (string, bool) {
	if !AreVessels(v) {
		return "", false
	}
	words := make([]string, len(v.Sizes))
	for i, size := range v.Sizes {
		words[i] = strconv.Itoa(v.Held[i]) + "/" + strconv.Itoa(size)
	}
	return strings.Join(words, ","), true
}

// ParseVessels returns the vessels with a VesselsText. It fails if there are none.
func ParseVessels(s string) (Vessels, bool) {
	var v Vessels
	// One word more than vessels may be is enough to see that there are too many.
	for _, word := range strings.SplitN(s, ",", MaxVessels+1) {
		amount, size, ok := parseVessel(word)
		if !ok {
			return Vessels{}, false
		}
		v.Sizes = append(v.Sizes, size)
		v.Held = append(v.Held, amount)
	}
	if !AreVessels(v) {
		return Vessels{}, false
	}
	return v, true
}

// MoveText returns From, > and To, with t for the tap and d for the drain, for a move of some vessels.
func MoveText(m Move) (string, bool) {
	if !isMoveAmong(MaxVessels, m) {
		return "", false
	}
	return endText(m.From, "t") + ">" + endText(m.To, "d"), true
}

// ParseMove returns the move with a MoveText. It fails if there is none.
func ParseMove(s string) (Move, bool) {
	first, second, _ := strings.Cut(s, ">")
	from, fromFine := parseEnd(first, "t")
	to, toFine := parseEnd(second, "d")
	m := Move{From: from, To: to}
	if !fromFine || !toFine || !isMoveAmong(MaxVessels, m) {
		return Move{}, false
	}
	return m, true
}

// isIndex reports whether i is the index of a vessel.
func isIndex(v Vessels, i int) bool {
	return i >= 0 && i < len(v.Sizes)
}

// isMoveAmong reports whether m is a move of so many vessels. From and To differ also where one would be the tap and the other one the drain.
func isMoveAmong(count int, m Move) bool {
	return m.From >= outside && m.From < count && m.To >= outside && m.To < count && m.From != m.To
}

// movesAmong returns all moves of so many vessels, in their order.
func movesAmong(count int, closed bool) []Move {
	first := outside
	if closed {
		first = 0
	}
	var moves []Move
	for from := first; from < count; from++ {
		for to := first; to < count; to++ {
			if from != to {
				moves = append(moves, Move{From: from, To: to})
			}
		}
	}
	return moves
}

// holdingOf returns what vessels hold.
func holdingOf(v Vessels) holding {
	var h holding
	copy(h[:], v.Held)
	return h
}

// vesselsWith returns vessels of these sizes that hold h, in new memory.
func vesselsWith(sizes []int, h holding) Vessels {
	v := Vessels{Sizes: make([]int, len(sizes)), Held: make([]int, len(sizes))}
	copy(v.Sizes, sizes)
	copy(v.Held, h[:])
	return v
}

// amountIn returns how much a move pours in vessels of these sizes that hold h.
func amountIn(sizes []int, h holding, m Move) int {
	switch {
	case m.From == outside:
		return sizes[m.To] - h[m.To]
	case m.To == outside:
		return h[m.From]
	}
	return min(h[m.From], sizes[m.To]-h[m.To])
}

// pour returns what vessels of these sizes hold behind a move.
func pour(sizes []int, h holding, m Move) holding {
	amount := amountIn(sizes, h, m)
	if m.From != outside {
		h[m.From] -= amount
	}
	if m.To != outside {
		h[m.To] += amount
	}
	return h
}

// holdingsAlong returns what is held before and behind each move, and false if these are no vessels or no list of their moves.
func holdingsAlong(v Vessels, moves []Move) ([]holding, bool) {
	if !AreVessels(v) || len(moves) > MaxMoves {
		return nil, false
	}
	h := holdingOf(v)
	states := []holding{h}
pouring:
	for i := 0; ; i++ {
		switch {
		case i == len(moves):
			break pouring
		case !isMoveAmong(len(v.Sizes), moves[i]):
			return nil, false
		}
		h = pour(v.Sizes, h, moves[i])
		states = append(states, h)
	}
	return states, true
}

// holdingsBehind returns the set of all that vessels of these sizes that hold h can hold behind one move.
func holdingsBehind(sizes []int, h holding) map[holding]bool {
	next := map[holding]bool{}
	for _, m := range movesAmong(len(sizes), false) {
		next[pour(sizes, h, m)] = true
	}
	return next
}

// commonDivisor returns the greatest common divisor of all sizes and amounts.
func commonDivisor(v Vessels) int {
	divisor := 0
	for i, size := range v.Sizes {
		divisor = greatestDivisor(greatestDivisor(divisor, size), v.Held[i])
	}
	return divisor
}

// greatestDivisor returns the greatest common divisor of two numbers of at least 0: one of them if the other one is 0.
func greatestDivisor(a int, b int) int {
	for b != 0 {
		a, b = b, a%b
	}
	return a
}

// parseVessel returns the amount and the size with the text of one vessel.
func parseVessel(word string) (int, int, bool) {
	first, second, _ := strings.Cut(word, "/")
	amount, amountFine := parseNumber(first)
	size, sizeFine := parseNumber(second)
	return amount, size, amountFine && sizeFine
}

// parseNumber returns the number of at least 0 that a word is in decimal, without sign and superfluous zeros.
func parseNumber(word string) (int, bool) {
	n, err := strconv.Atoi(word)
	// Atoi takes signs and zeros in front; only the word that the number would be written as is taken here.
	if err != nil || n < 0 || strconv.Itoa(n) != word {
		return 0, false
	}
	return n, true
}

// endText returns the text of one end of a move, where a letter stands for the outside.
func endText(end int, letter string) string {
	if end == outside {
		return letter
	}
	return strconv.Itoa(end)
}

// parseEnd returns the end of a move with a text, where a letter stands for the outside.
func parseEnd(word string, letter string) (int, bool) {
	if word == letter {
		return outside, true
	}
	return parseNumber(word)
}
