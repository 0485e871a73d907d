package tests

import (
	"fmt"
	"slices"
	"testing"

	"loop.example/g01208/impl"
)

// finest is the greatest Num and the greatest Den of a ratio of chapter 7; prime is the greatest prime below it.
const (
	finest = impl.MaxNumber
	prime  = 999999937
)

// fineRatios are ratios, of any size.
var fineRatios = []ratio{
	part(0, 1), part(1, 1), part(-1, 1), part(1, 2), part(-1, 2), part(7, 3), part(-7, 60), part(59, 60), part(million, 1), part(1, million+1),
	part(1, finest), part(-1, finest), part(1, finest-1), part(finest, 1), part(-finest, 1), part(finest-1, 1),
	part(finest-1, finest), part(1-finest, finest), part(finest, finest-1), part(-finest, finest-1), part(finest, prime), part(prime, finest), part(-prime, finest-1),
}

// noFineRatios are no ratios: limits exceeded by one, numbers of any size, and such as are not in lowest terms.
var noFineRatios = []ratio{
	part(1, -1), part(1, 0), part(0, 0), part(0, -1), part(-1, -1), part(1, finest+1), part(0, finest+1), part(-1, finest+1), part(1, least), part(1, greatest), part(1, least+1), part(finest, -1), part(1, -finest),
	part(finest+1, 1), part(-finest-1, 1), part(finest+1, finest), part(-finest-1, finest), part(finest+1, 0), part(least, 1), part(greatest, 1), part(least+1, 1), part(greatest, finest), part(least, finest), part(greatest, finest-1),
	part(2, 2), part(2, 4), part(-2, 4), part(6, 9), part(0, 2), part(0, 3), part(0, finest), part(0, greatest), part(finest, finest), part(-finest, finest), part(finest, 2), part(-finest, 5), part(999999999, 37), part(2, finest),
	part(least, least), part(greatest, greatest), part(least, greatest), part(greatest, least), part(least, 0), part(least, 2), part(0, least),
}

// sea is the chapter's example: a vessel of the size 4 that holds 2 with the salt 1, and a vessel of 3 that holds 3 with none.
func sea() brine {
	return brineOf("2/4,3/3", wholes(1, 0)...)
}

// brines returns brine of all counts of vessels.
func brines() []brine {
	return []brine{
		sea(), brineOf("2/4,0/3", wholes(1, 0)...), brineOf("0/1", part(0, 1)), brineOf("1/1", part(finest, 1)), brineOf("60/60", part(1, finest)), brineOf("60/60", part(finest, finest-1)), brineOf("0/60,0/60", wholes(0, 0)...),
		brineOf("3/4,1/3", part(1, 1), part(1, 2)), brineOf("1/2,2/3,0/4", part(1, 3), part(2, 3), part(0, 1)), brineOf("5/5,0/3,1/1,2/9", part(7, 2), part(0, 1), part(0, 1), part(1, 12)), brineOf("3/60,60/60,0/1,1/1,30/60", part(finest, 3), part(0, 1), part(0, 1), part(1, finest), part(0, 1)),
	}
}

// noBrines returns what is no brine: vessels that are none, one ratio too few and one too many, ratios that are none or less than 0 in any place, and salt in a vessel that holds nothing.
func noBrines() []brine {
	list := []brine{
		{}, {Salt: wholes(0)}, {Salt: []ratio{}}, brineOf("2/4,3/3"), {Vessels: sea().Vessels, Salt: []ratio{}}, brineOf("2/4,3/3", wholes(1)...), brineOf("2/4,3/3", wholes(1, 0, 0)...), brineOf("2/4"), brineOf("2/4", wholes(1, 0)...), brineOf("1/1,1/1,1/1,1/1,1/1", wholes(0, 0, 0, 0)...), brineOf("1/1,1/1,1/1,1/1,1/1", wholes(0, 0, 0, 0, 0, 0)...),
		brineOf("0/4", part(1, 1)), brineOf("0/4", part(1, finest)), brineOf("2/4,0/3", wholes(1, 1)...), brineOf("0/4,3/3", part(1, 2), part(1, 2)), brineOf("1/1,1/1,1/1,1/1,0/1", wholes(0, 0, 0, 0, 1)...),
		brineOf("2/4,3/3", wholes(-1, 0)...), brineOf("2/4,3/3", wholes(1, -1)...), brineOf("2/4,3/3", part(1, 1), part(-1, finest)), brineOf("2/4,3/3", part(-finest, 1), part(0, 1)), brineOf("0/4", part(-1, 1)),
		{Vessels: vessels{Sizes: times(1, 6), Held: times(1, 6)}, Salt: wholes(times(0, 6)...)},
	}
	for _, v := range noVessels {
		for _, count := range []int{0, 1, 2, len(v.Sizes), len(v.Held)} {
			list = append(list, brine{Vessels: v, Salt: wholes(times(0, count)...)})
		}
	}
	for _, r := range noFineRatios {
		list = append(list, brineOf("2/4,3/3", r, part(0, 1)), brineOf("2/4,3/3", part(1, 1), r), brineOf("1/1", r), brineOf("0/1", r), brineOf("1/1,1/1,1/1,1/1,1/1", append(wholes(0, 0, 0, 0), r)...))
	}
	return list
}

func TestExampleOfSalt(t *testing.T) {
	if r, ok := impl.ShareOf(sea(), 0); r != part(1, 2) || !ok {
		t.Errorf("share of the first vessel %v, %t", r, ok)
	}
	if r, ok := impl.ShareOf(sea(), 1); r != part(0, 1) || !ok {
		t.Errorf("share of the second vessel %v, %t", r, ok)
	}
	b, ok := impl.PourMove(sea(), readMoves(t, "1>0")[0])
	if !same(b, brineOf("4/4,1/3", wholes(1, 0)...)) || !ok {
		t.Errorf("poured: %v, %t", b, ok)
	}
	if r, ok := impl.ShareOf(b, 0); r != part(1, 4) || !ok {
		t.Errorf("share then %v, %t", r, ok)
	}
	if r, ok := impl.ThinShare(4, 1, 2); r != part(9, 16) || !ok {
		t.Errorf("thinned: %v, %t", r, ok)
	}
	if x, y, ok := impl.BlendAmounts(part(1, 2), part(1, 5), part(1, 4)); x != 1 || y != 5 || !ok {
		t.Errorf("blend: %d, %d, %t", x, y, ok)
	}
}

func TestIsRatio(t *testing.T) {
	for _, r := range fineRatios {
		if !impl.IsRatio(r) {
			t.Errorf("%v: no ratio", r)
		}
	}
	for _, r := range noFineRatios {
		if impl.IsRatio(r) {
			t.Errorf("%v: a ratio", r)
		}
	}
}

func TestIsBrine(t *testing.T) {
	for _, b := range brines() {
		if !impl.IsBrine(b) {
			t.Errorf("%v: no brine", b)
		}
	}
	for _, r := range fineRatios {
		if got := impl.IsBrine(brineOf("1/4,2/3", part(0, 1), r)); got != (r.Num >= 0) {
			t.Errorf("salt %v: %t", r, got)
		}
		if got := impl.IsBrine(brineOf("1/4,0/3", part(0, 1), r)); got != (r.Num == 0) {
			t.Errorf("salt %v in a vessel that holds nothing: %t", r, got)
		}
	}
	for _, b := range noBrines() {
		if impl.IsBrine(b) {
			t.Errorf("%v: brine", b)
		}
	}
}

func TestBrineIsRequired(t *testing.T) {
	for _, b := range noBrines() {
		what := fmt.Sprint(b, ": ")
		checkFails(t, what+"TotalSalt", all(impl.TotalSalt(b))...)
		checkFails(t, what+"SharesOf", all(impl.SharesOf(b))...)
		checkFails(t, what+"AreEven", all(impl.AreEven(b))...)
		checkFails(t, what+"MixedShare", all(impl.MixedShare(b))...)
		checkFails(t, what+"PourMoves", all(impl.PourMoves(b, nil))...)
		for i := range 2 {
			checkFails(t, what+"ShareOf", all(impl.ShareOf(b, i))...)
			checkFails(t, what+"PourAmount", all(impl.PourAmount(b, i, 1-i, i))...)
			checkFails(t, what+"PourMove", all(impl.PourMove(b, fromTo(i, 1-i)))...)
			checkFails(t, what+"PourMove", all(impl.PourMove(b, fromTo(i, drain)))...)
			checkFails(t, what+"PlanToShare", all(impl.PlanToShare(b, part(0, 1), i))...)
		}
	}
}

func TestShareOf(t *testing.T) {
	for _, c := range []struct {
		brine brine
		i     int
		want  ratio
	}{
		{sea(), 0, part(1, 2)}, {sea(), 1, part(0, 1)}, {brineOf("3/4,1/3", part(1, 1), part(1, 2)), 0, part(1, 3)}, {brineOf("3/4,1/3", part(1, 1), part(1, 2)), 1, part(1, 2)}, {brineOf("6/9", part(4, 5)), 0, part(2, 15)}, {brineOf("60/60", part(59, 1)), 0, part(59, 60)}, {brineOf("60/60", part(60, 1)), 0, part(1, 1)}, {brineOf("1/1,1/1,1/1,1/1,2/7", wholes(0, 0, 0, 0, 1)...), 4, part(1, 2)},
		// Greater than 1.
		{brineOf("2/4", part(5, 1)), 0, part(5, 2)}, {brineOf("1/4", part(finest, 1)), 0, part(finest, 1)}, {brineOf("3/4", part(finest, 1)), 0, part(finest, 3)}, {brineOf("4/4", part(finest, 1)), 0, part(250000000, 1)}, {brineOf("7/60", part(500000000, 71428571)), 0, part(500000000, 499999997)},
		// As fine as may be, and as fine as its salt.
		{brineOf("2/4", part(1, 500000000)), 0, part(1, finest)}, {brineOf("2/4", part(3, 500000000)), 0, part(3, finest)}, {brineOf("1/4", part(1, finest)), 0, part(1, finest)}, {brineOf("2/4", part(2, 999999999)), 0, part(1, 999999999)}, {brineOf("60/60", part(1, 16666666)), 0, part(1, 999999960)}, {brineOf("60/60", part(60, 999999961)), 0, part(1, 999999961)}, {brineOf("60/60", part(0, 1)), 0, part(0, 1)},
	} {
		if r, ok := impl.ShareOf(c.brine, c.i); r != c.want || !ok {
			t.Errorf("%v, %d: %v, %t, want %v", c.brine, c.i, r, ok, c.want)
		}
	}
	for _, b := range []brine{
		brineOf("2/4", part(1, 500000001)), brineOf("2/4", part(1, finest)), brineOf("2/4", part(finest-1, finest)), brineOf("4/4", part(2, 999999999)), brineOf("60/60", part(1, 16666667)), brineOf("60/60", part(1, finest)), brineOf("60/60", part(finest, 999999999)), brineOf("3/3", part(1, prime)), brineOf("0/4", part(0, 1)),
	} {
		checkFails(t, fmt.Sprint(b, ": ShareOf"), all(impl.ShareOf(b, 0))...)
	}
	for _, b := range brines() {
		count := len(b.Salt)
		for _, i := range []int{-1, count, count + 1, -count, least, greatest} {
			checkFails(t, fmt.Sprint(b, i, ": ShareOf"), all(impl.ShareOf(b, i))...)
		}
	}
	holdsNothing := brineOf("0/4,3/3", part(0, 1), part(1, 1))
	checkFails(t, "ShareOf a vessel that holds nothing", all(impl.ShareOf(holdsNothing, 0))...)
}

func TestTotalSalt(t *testing.T) {
	for _, c := range []struct{ salt, want []ratio }{
		{wholes(1, 0), wholes(1)}, {wholes(0), wholes(0)}, {wholes(0, 0, 0, 0, 0), wholes(0)}, {wholes(1, 2, 3, 4, 5), wholes(15)}, {[]ratio{part(1, 2), part(1, 3)}, []ratio{part(5, 6)}}, {[]ratio{part(1, 6), part(1, 10)}, []ratio{part(4, 15)}}, {[]ratio{part(1, 3), part(2, 3)}, wholes(1)}, {[]ratio{part(1, finest)}, []ratio{part(1, finest)}}, {[]ratio{part(7, 2), part(0, 1), part(0, 1), part(1, 12)}, []ratio{part(43, 12)}},
		// Sums that just are ratios, and such as just are none.
		{[]ratio{part(1, 512), part(1, 1953125)}, []ratio{part(1953637, finest)}}, {[]ratio{part(1, 31622), part(1, 31623)}, []ratio{part(63245, 999982506)}}, {[]ratio{part(1, 31623), part(1, 31624)}, nil}, {[]ratio{part(1, 2), part(1, prime)}, nil}, {[]ratio{part(1, finest), part(1, finest)}, []ratio{part(1, 500000000)}}, {[]ratio{part(1, finest), part(1, finest-1)}, nil}, {[]ratio{part(1, finest), part(1, 3)}, nil},
		{wholes(finest), wholes(finest)}, {wholes(finest, 0, 0), wholes(finest)}, {wholes(finest-1, 1), wholes(finest)}, {wholes(finest, 1), nil}, {wholes(1, finest), nil}, {wholes(500000000, 500000000), wholes(finest)}, {wholes(500000000, 500000001), nil}, {[]ratio{part(finest, 1), part(1, 2)}, nil}, {[]ratio{part(999999998, 3), part(2, 3)}, []ratio{part(finest, 3)}}, {[]ratio{part(999999998, 3), part(1, 1)}, nil}, {wholes(finest, finest, finest, finest, finest), nil},
		{[]ratio{part(finest-1, finest), part(1, finest)}, wholes(1)}, {[]ratio{part(finest-1, finest), part(3, finest)}, []ratio{part(500000001, 500000000)}}, {[]ratio{part(finest, 999999999), part(finest, prime)}, nil},
		// The sum is a ratio, but one on the way is none; in another order all are.
		{[]ratio{part(1, 99991), part(1, 99989), part(99990, 99991)}, nil}, {[]ratio{part(1, 99991), part(99990, 99991), part(1, 99989)}, []ratio{part(99990, 99989)}}, {[]ratio{part(999999999, 2), part(1, 1), part(1, 2)}, nil}, {[]ratio{part(999999999, 2), part(1, 2), part(1, 1)}, wholes(500000001)},
		{[]ratio{part(0, 1), part(1, prime), part(1, 2), part(1, 2), part(prime-1, prime)}, nil}, {[]ratio{part(prime-1, prime), part(1, prime), part(0, 1), part(1, 2), part(1, 2)}, wholes(2)},
	} {
		b := brine{Vessels: vessels{Sizes: times(3, len(c.salt)), Held: times(2, len(c.salt))}, Salt: c.salt}
		r, ok := impl.TotalSalt(b)
		if c.want == nil {
			checkFails(t, fmt.Sprint(b, ": TotalSalt"), r, ok)
			checkFails(t, fmt.Sprint(b, ": MixedShare"), all(impl.MixedShare(b))...)
		} else if r != c.want[0] || !ok {
			t.Errorf("%v: %v, %t, want %v", b, r, ok, c.want)
		}
	}
}

func TestPourAmount(t *testing.T) {
	for _, c := range []struct {
		before           brine
		from, to, amount int
		want             brine
	}{
		{sea(), 1, 0, 2, brineOf("4/4,1/3", wholes(1, 0)...)}, {sea(), 1, 0, 1, brineOf("3/4,2/3", wholes(1, 0)...)}, {brineOf("2/4,0/3", wholes(1, 0)...), 0, 1, 1, brineOf("1/4,1/3", part(1, 2), part(1, 2))}, {brineOf("3/4,1/3", part(1, 1), part(1, 2)), 0, 1, 2, brineOf("1/4,3/3", part(1, 3), part(7, 6))}, {brineOf("3/4,1/3", part(1, 1), part(1, 2)), 0, 1, 1, brineOf("2/4,2/3", part(2, 3), part(5, 6))},
		// No amount, also where the one holds nothing, where the other one has no room, and where the share is no ratio.
		{sea(), 0, 1, 0, sea()}, {sea(), 1, 0, 0, sea()}, {brineOf("0/4,2/3", wholes(0, 1)...), 0, 1, 0, brineOf("0/4,2/3", wholes(0, 1)...)}, {brineOf("0/4,0/3", wholes(0, 0)...), 1, 0, 0, brineOf("0/4,0/3", wholes(0, 0)...)}, {brineOf("3/3,3/3", part(1, prime), part(0, 1)), 0, 1, 0, brineOf("3/3,3/3", part(1, prime), part(0, 1))},
		// All that is held, and just the room.
		{brineOf("2/4,1/3", wholes(1, 4)...), 0, 1, 2, brineOf("0/4,3/3", wholes(0, 5)...)}, {brineOf("1/4,3/5", wholes(7, 3)...), 1, 0, 3, brineOf("4/4,0/5", wholes(10, 0)...)}, {brineOf("1/4,4/5", wholes(0, 3)...), 1, 0, 3, brineOf("4/4,1/5", part(9, 4), part(3, 4))}, {brineOf("60/60,0/60", wholes(60, 0)...), 0, 1, 60, brineOf("0/60,60/60", wholes(0, 60)...)}, {brineOf("1/1,0/1", part(1, finest), part(0, 1)), 0, 1, 1, brineOf("0/1,1/1", part(0, 1), part(1, finest))},
		// Vessels beside keep what they have.
		{brineOf("1/2,2/3,1/4,5/5,0/6", part(1, 3), part(2, 3), part(9, 1), part(1, 7), part(0, 1)), 3, 2, 3, brineOf("1/2,2/3,4/4,2/5,0/6", part(1, 3), part(2, 3), part(318, 35), part(2, 35), part(0, 1))}, {brineOf("1/2,2/3,1/4,5/5,0/6", part(1, 3), part(2, 3), part(9, 1), part(1, 7), part(0, 1)), 0, 4, 1, brineOf("0/2,2/3,1/4,5/5,1/6", part(0, 1), part(2, 3), part(9, 1), part(1, 7), part(1, 3))},
		// Greater shares than 1.
		{brineOf("2/4,0/3", part(finest, 1), part(0, 1)), 0, 1, 1, brineOf("1/4,1/3", wholes(500000000, 500000000)...)}, {brineOf("3/4,1/4", part(finest-1, 1), part(0, 1)), 0, 1, 2, brineOf("1/4,3/4", wholes(333333333, 666666666)...)},
		// What comes and what stays just are ratios.
		{brineOf("2/4,0/3", part(1, 500000000), part(0, 1)), 0, 1, 1, brineOf("1/4,1/3", part(1, finest), part(1, finest))}, {brineOf("3/3,0/3", part(1, 600000000), part(0, 1)), 0, 1, 3, brineOf("0/3,3/3", part(0, 1), part(1, 600000000))}, {brineOf("1/1,1/2", part(1, 31622), part(1, 31623)), 0, 1, 1, brineOf("0/1,2/2", part(0, 1), part(63245, 999982506))}, {brineOf("1/1,1/2", wholes(1, finest-1)...), 0, 1, 1, brineOf("0/1,2/2", wholes(0, finest)...)},
		// All water takes all salt with it, as fine as it may be: no share has to be a ratio for this.
		{brineOf("2/2,0/3", part(1, finest), part(0, 1)), 0, 1, 2, brineOf("0/2,2/3", part(0, 1), part(1, finest))}, {brineOf("60/60,0/60", part(7, finest), part(0, 1)), 0, 1, 60, brineOf("0/60,60/60", part(0, 1), part(7, finest))},
	} {
		if b, ok := impl.PourAmount(c.before, c.from, c.to, c.amount); !same(b, c.want) || !ok {
			t.Errorf("%v, %d from %d to %d: %v, %t, want %v", c.before, c.amount, c.from, c.to, b, ok, c.want)
		}
	}
}

func TestAmountsThatCannotBePoured(t *testing.T) {
	three := brineOf("2/4,0/3,5/5", wholes(1, 0, 2)...)
	for _, c := range []struct {
		brine            brine
		from, to, amount int
	}{
		// Less than 0, more than is held, more than there is room for.
		{sea(), 1, 0, -1}, {sea(), 1, 0, least}, {sea(), 1, 0, 3}, {sea(), 1, 0, 4}, {sea(), 1, 0, greatest}, {sea(), 0, 1, 1}, {sea(), 0, 1, -1}, {three, 0, 1, 3}, {three, 0, 2, 1}, {three, 2, 1, 4}, {three, 2, 0, 3}, {three, 1, 0, 1}, {three, 1, 0, -1}, {three, 2, 0, greatest}, {three, 2, 0, least},
		// Equal indices.
		{three, 0, 0, 0}, {three, 0, 0, 1}, {three, 1, 1, 0}, {three, 2, 2, 0}, {three, 2, 2, 5}, {brineOf("1/2", part(1, 1)), 0, 0, 0}, {brineOf("1/2", part(1, 1)), 0, 0, 1},
		// What is no index, among this the tap and the drain.
		{three, tap, 0, 1}, {three, tap, 0, 0}, {three, 0, drain, 1}, {three, 0, drain, 0}, {three, 0, drain, 2}, {three, tap, drain, 0}, {three, 3, 0, 0}, {three, 3, 0, 1}, {three, 0, 3, 0}, {three, 0, 3, 1}, {three, least, 0, 0}, {three, 0, least, 0}, {three, greatest, 0, 0}, {three, 0, greatest, 0}, {three, -2, 0, 0}, {three, 0, -2, 0}, {brineOf("1/2", part(1, 1)), 0, 1, 0}, {brineOf("1/2", part(1, 1)), 1, 0, 0},
		// What comes is no ratio, what stays is none, or the sum is none.
		{brineOf("2/4,0/3", part(1, 500000001), part(0, 1)), 0, 1, 1}, {brineOf("4/4,0/3", part(1, finest), part(0, 1)), 0, 1, 3}, {brineOf("3/3,0/3", part(1, 600000000), part(0, 1)), 0, 1, 1}, {brineOf("3/3,0/3", part(1, 600000000), part(0, 1)), 0, 1, 2}, {brineOf("60/60,0/60", part(finest-1, 1), part(0, 1)), 0, 1, 59}, {brineOf("60/60,1/60", part(finest-1, 1), part(13, 20)), 0, 1, 59}, {brineOf("60/60,0/60", part(finest-1, 1), part(0, 1)), 0, 1, 1},
		{brineOf("1/1,1/2", part(1, 31623), part(1, 31624)), 0, 1, 1}, {brineOf("1/1,1/2", wholes(1, finest)...), 0, 1, 1}, {brineOf("1/1,1/2", part(1, 2), part(finest, 1)), 0, 1, 1}, {brineOf("2/2,1/3", wholes(1, finest)...), 0, 1, 1}, {brineOf("2/2,1/3", wholes(finest, finest)...), 0, 1, 2},
	} {
		checkFails(t, fmt.Sprint(c, ": PourAmount"), all(impl.PourAmount(c.brine, c.from, c.to, c.amount))...)
	}
	// No ratio is made where no salt is poured.
	if b, ok := impl.PourAmount(brineOf("2/4,1/3", part(0, 1), part(1, finest)), 0, 1, 1); !same(b, brineOf("1/4,2/3", part(0, 1), part(1, finest))) || !ok {
		t.Errorf("no salt poured: %v, %t", b, ok)
	}
}

func TestPourMove(t *testing.T) {
	for _, c := range []struct {
		before brine
		moved  string
		want   brine
	}{
		// Each kind of move with an amount: the tap gives no salt, and the drain takes all.
		{sea(), "t>0", brineOf("4/4,3/3", wholes(1, 0)...)}, {sea(), "0>d", brineOf("0/4,3/3", wholes(0, 0)...)}, {sea(), "1>d", brineOf("2/4,0/3", wholes(1, 0)...)}, {sea(), "1>0", brineOf("4/4,1/3", wholes(1, 0)...)}, {brineOf("3/4,1/3", part(1, 1), part(1, 2)), "0>1", brineOf("1/4,3/3", part(1, 3), part(7, 6))}, {brineOf("3/4,1/3", part(1, 1), part(1, 2)), "1>0", brineOf("4/4,0/3", part(3, 2), part(0, 1))}, {brineOf("0/1", part(0, 1)), "t>0", brineOf("1/1", part(0, 1))}, {brineOf("1/1", part(finest, 1)), "0>d", brineOf("0/1", part(0, 1))},
		// And without one.
		{sea(), "t>1", sea()}, {sea(), "0>1", sea()}, {brineOf("0/4,2/3", wholes(0, 1)...), "0>d", brineOf("0/4,2/3", wholes(0, 1)...)}, {brineOf("0/4,2/3", wholes(0, 1)...), "0>1", brineOf("0/4,2/3", wholes(0, 1)...)}, {brineOf("0/4,0/3", wholes(0, 0)...), "1>0", brineOf("0/4,0/3", wholes(0, 0)...)}, {brineOf("3/3,3/3", part(1, prime), part(1, finest)), "0>1", brineOf("3/3,3/3", part(1, prime), part(1, finest))}, {brineOf("60/60", part(1, finest)), "t>0", brineOf("60/60", part(1, finest))},
		// Salt that is as fine as may be, where no ratio is made that is finer.
		{brineOf("2/4,0/3", part(1, finest), part(0, 1)), "0>1", brineOf("0/4,2/3", part(0, 1), part(1, finest))}, {brineOf("2/4,0/3", part(1, finest), part(0, 1)), "t>0", brineOf("4/4,0/3", part(1, finest), part(0, 1))}, {brineOf("3/4,0/3", part(1, finest), part(0, 1)), "0>d", brineOf("0/4,0/3", wholes(0, 0)...)},
		{brineOf("5/5,0/3,1/1,2/9", part(7, 2), part(0, 1), part(0, 1), part(1, 12)), "0>3", brineOf("0/5,0/3,1/1,7/9", part(0, 1), part(0, 1), part(0, 1), part(43, 12))}, {brineOf("5/5,0/3,1/1,2/9", part(7, 2), part(0, 1), part(0, 1), part(1, 12)), "0>1", brineOf("2/5,3/3,1/1,2/9", part(7, 5), part(21, 10), part(0, 1), part(1, 12))},
	} {
		m := readMoves(t, c.moved)
		if b, ok := impl.PourMove(c.before, m[0]); !same(b, c.want) || !ok {
			t.Errorf("%v, %s: %v, %t, want %v", c.before, c.moved, b, ok, c.want)
		}
		if b, ok := impl.PourMoves(c.before, m); !same(b, c.want) || !ok {
			t.Errorf("%v, %s alone: %v, %t, want %v", c.before, c.moved, b, ok, c.want)
		}
	}
	for _, c := range []struct {
		before brine
		moved  string
	}{
		{brineOf("4/4,0/3", part(1, finest), part(0, 1)), "0>1"}, {brineOf("2/2,0/1", part(1, 500000001), part(0, 1)), "0>1"}, {brineOf("1/1,1/2", part(1, 31623), part(1, 31624)), "0>1"}, {brineOf("2/2,1/3", wholes(1, finest)...), "0>1"}, {brineOf("3/3,0/2", part(1, 600000000), part(0, 1)), "0>1"},
	} {
		checkFails(t, fmt.Sprint(c, ": PourMove"), all(impl.PourMove(c.before, readMoves(t, c.moved)[0]))...)
	}
}

func TestMovesOfBrineAreRequired(t *testing.T) {
	for _, m := range noMovesOfTwo {
		checkFails(t, fmt.Sprint(m, ": PourMove"), all(impl.PourMove(sea(), m))...)
		for _, moves := range [][]move{{m}, {fromTo(1, 0), m}, {m, fromTo(1, 0)}, append(repeated(fromTo(tap, 0), 99), m)} {
			checkFails(t, fmt.Sprint(moves, ": PourMoves"), all(impl.PourMoves(sea(), moves))...)
		}
	}
	for _, b := range brines() {
		count := len(b.Salt)
		for _, m := range []move{fromTo(tap, count), fromTo(count, drain), fromTo(0, count), fromTo(count, 0), fromTo(tap, drain), fromTo(0, 0)} {
			checkFails(t, fmt.Sprint(b, m, ": PourMove"), all(impl.PourMove(b, m))...)
			checkFails(t, fmt.Sprint(b, m, ": PourMoves"), all(impl.PourMoves(b, []move{m}))...)
		}
	}
}

func TestPourMoves(t *testing.T) {
	for _, c := range []struct {
		before brine
		moves  []string
		want   brine
	}{
		{sea(), nil, sea()}, {sea(), []string{"1>0", "0>d", "1>0"}, brineOf("1/4,0/3", wholes(0, 0)...)}, {sea(), []string{"1>0", "1>d", "0>1"}, brineOf("1/4,3/3", part(1, 4), part(3, 4))}, {sea(), []string{"1>d", "0>1", "t>0", "0>1"}, brineOf("3/4,3/3", wholes(0, 1)...)}, {sea(), []string{"1>0", "1>d", "0>1", "t>0", "1>d", "0>1"}, brineOf("1/4,3/3", part(1, 16), part(3, 16))},
		{brineOf("4/4,0/3", part(1, 200000000), part(0, 1)), []string{"0>1", "1>0", "0>1", "1>d"}, brineOf("1/4,0/3", part(1, 800000000), part(0, 1))},
	} {
		if b, ok := impl.PourMoves(c.before, readMoves(t, c.moves...)); !same(b, c.want) || !ok {
			t.Errorf("%v, %v: %v, %t, want %v", c.before, c.moves, b, ok, c.want)
		}
	}
	for _, b := range brines() {
		for _, moves := range [][]move{nil, {}} {
			if same, ok := impl.PourMoves(b, moves); fmt.Sprint(same) != fmt.Sprint(b) || !ok {
				t.Errorf("no moves of %v: %v, %t", b, same, ok)
			}
		}
	}
}

func TestLongListsOfMovesOfBrine(t *testing.T) {
	there := slices.Repeat(readMoves(t, "1>d", "0>1", "t>0", "0>d", "1>0"), impl.MaxMoves/5)
	if b, ok := impl.PourMoves(sea(), there); !same(b, brineOf("2/4,0/3", wholes(1, 0)...)) || !ok {
		t.Errorf("all moves that may be: %v, %t", b, ok)
	}
	checkFails(t, "one move more", all(impl.PourMoves(sea(), append(there, fromTo(tap, 0))))...)
	checkFails(t, "one move more, without an amount", all(impl.PourMoves(sea(), append(there, fromTo(1, drain))))...)
	if b, ok := impl.PourMoves(sea(), repeated(fromTo(0, 1), impl.MaxMoves)); !same(b, sea()) || !ok {
		t.Errorf("moves without an amount: %v, %t", b, ok)
	}
	checkFails(t, "one more of these", all(impl.PourMoves(sea(), repeated(fromTo(0, 1), impl.MaxMoves+1)))...)
}

func TestRatiosThatAreNoneOnTheWay(t *testing.T) {
	fine := brineOf("4/4,0/3", part(1, 200000000), part(0, 1))
	for _, moves := range [][]string{
		{"0>1", "t>0", "1>d", "0>1"}, {"0>1", "t>0", "1>d", "0>1", "0>d"}, {"0>1", "t>0", "1>d", "0>1", "0>d", "1>d"},
	} {
		checkFails(t, fmt.Sprint(moves), all(impl.PourMoves(fine, readMoves(t, moves...)))...)
	}
	for _, moves := range [][]string{{"0>1", "t>0", "1>d"}, {"0>1", "t>0", "1>d", "0>d", "t>0", "0>1"}, {"0>1", "t>0", "0>1", "0>d", "1>0"}} {
		if b, ok := impl.PourMoves(fine, readMoves(t, moves...)); !impl.IsBrine(b) || !ok {
			t.Errorf("%v: %v, %t", moves, b, ok)
		}
	}
	// Thinned by a quarter again and again, it comes to a ratio that is none at some time.
	b, moves := brineOf("4/4,0/3", wholes(4, 0)...), readMoves(t, "0>1", "1>d", "t>0")
	for times := 1; ; times++ {
		next, ok := impl.PourMoves(b, moves)
		if times > 15 {
			checkFails(t, "thinned too often", next, ok)
			break
		}
		if r, fine := impl.ShareOf(next, 0); !ok || fine != (times <= 14) || fine && r != part(1, 1<<(2*times)) {
			t.Fatalf("thinned %d times: %v, %t, share %v, %t", times, next, ok, r, fine)
		}
		b = next
	}
}

func TestShares(t *testing.T) {
	for _, c := range []struct {
		brine  brine
		shares []ratio
		even   bool
		mixed  []ratio
	}{
		{sea(), []ratio{part(1, 2), part(0, 1)}, false, []ratio{part(1, 5)}}, {brineOf("4/4,1/3", wholes(1, 0)...), []ratio{part(1, 4), part(0, 1)}, false, []ratio{part(1, 5)}},
		// Nothing is held at all.
		{brineOf("0/4", part(0, 1)), nil, true, nil}, {brineOf("0/4,0/3", wholes(0, 0)...), nil, true, nil}, {brineOf("0/1,0/1,0/1,0/1,0/1", wholes(0, 0, 0, 0, 0)...), nil, true, nil},
		// One vessel holds something.
		{brineOf("2/4", part(1, 1)), []ratio{part(1, 2)}, true, []ratio{part(1, 2)}}, {brineOf("2/4", part(0, 1)), wholes(0), true, wholes(0)}, {brineOf("0/4,2/3", wholes(0, 3)...), []ratio{part(3, 2)}, true, []ratio{part(3, 2)}}, {brineOf("0/4,0/2,3/3,0/1,0/9", wholes(0, 0, 7, 0, 0)...), []ratio{part(7, 3)}, true, []ratio{part(7, 3)}},
		// Vessels between hold nothing.
		{brineOf("2/4,0/3,4/4", wholes(1, 0, 2)...), []ratio{part(1, 2), part(1, 2)}, true, []ratio{part(1, 2)}}, {brineOf("2/4,0/3,4/4", wholes(1, 0, 3)...), []ratio{part(1, 2), part(3, 4)}, false, []ratio{part(2, 3)}}, {brineOf("0/4,1/3,0/4,0/2,2/2", part(0, 1), part(1, 3), part(0, 1), part(0, 1), part(2, 3)), []ratio{part(1, 3), part(1, 3)}, true, []ratio{part(1, 3)}}, {brineOf("1/4,0/3,1/4", wholes(0, 0, 0)...), wholes(0, 0), true, wholes(0)},
		// The same shares, and one other share in any place.
		{brineOf("1/4,2/3,3/3", wholes(2, 4, 6)...), wholes(2, 2, 2), true, wholes(2)}, {brineOf("1/4,2/3,3/3", wholes(3, 4, 6)...), wholes(3, 2, 2), false, []ratio{part(13, 6)}}, {brineOf("1/4,2/3,3/3", wholes(2, 6, 6)...), wholes(2, 3, 2), false, []ratio{part(7, 3)}}, {brineOf("1/4,2/3,3/3", wholes(2, 4, 9)...), wholes(2, 2, 3), false, []ratio{part(5, 2)}}, {brineOf("1/1,1/1,1/1,1/1,1/1", wholes(1, 1, 1, 1, 0)...), wholes(1, 1, 1, 1, 0), false, []ratio{part(4, 5)}}, {brineOf("60/60,1/1", part(59, 1), part(59, 60)), []ratio{part(59, 60), part(59, 60)}, true, []ratio{part(59, 60)}},
		// The mixed share is a ratio as fine as may be, or none, with shares that are some.
		{brineOf("1/1,1/1", part(1, 500000000), part(0, 1)), []ratio{part(1, 500000000), part(0, 1)}, false, []ratio{part(1, finest)}}, {brineOf("1/1,1/1", part(1, 500000001), part(0, 1)), []ratio{part(1, 500000001), part(0, 1)}, false, nil}, {brineOf("1/1,1/1", part(1, finest), part(1, finest)), []ratio{part(1, finest), part(1, finest)}, true, []ratio{part(1, finest)}}, {brineOf("1/1,1/1", part(1, 31624), part(1, 31623)), []ratio{part(1, 31624), part(1, 31623)}, false, nil},
		{brineOf("1/1,1/1", wholes(finest, 0)...), wholes(finest, 0), false, wholes(500000000)}, {brineOf("1/1,1/1", wholes(finest, finest)...), wholes(finest, finest), true, nil},
	} {
		if list, ok := impl.SharesOf(c.brine); !same(list, c.shares) || !ok {
			t.Errorf("%v: %v, %t, want %v", c.brine, list, ok, c.shares)
		}
		if even, ok := impl.AreEven(c.brine); even != c.even || !ok {
			t.Errorf("%v: even %t, %t, want %t", c.brine, even, ok, c.even)
		}
		r, ok := impl.MixedShare(c.brine)
		if c.mixed == nil {
			checkFails(t, fmt.Sprint(c.brine, ": MixedShare"), r, ok)
		} else if r != c.mixed[0] || !ok {
			t.Errorf("%v: mixed %v, %t, want %v", c.brine, r, ok, c.mixed)
		}
	}
	// A share that is none fails, wherever it is; the mixed share may be a ratio all the same.
	for i := range 3 {
		b := brineOf("2/4,2/3,2/2", wholes(1, 1, 1)...)
		b.Salt[i] = part(finest-1, finest)
		checkFails(t, fmt.Sprint(b, ": SharesOf"), all(impl.SharesOf(b))...)
		checkFails(t, fmt.Sprint(b, ": AreEven"), all(impl.AreEven(b))...)
	}
	b := brineOf("2/4,2/3,2/2", part(finest-1, finest), part(1, finest), part(1, 1))
	if r, ok := impl.MixedShare(b); r != part(1, 3) || !ok {
		t.Errorf("%v: mixed %v, %t", b, r, ok)
	}
}

func TestThinShare(t *testing.T) {
	for _, c := range []struct {
		size, taken, times int
		want               ratio
	}{
		{4, 1, 0, part(1, 1)}, {4, 1, 1, part(3, 4)}, {4, 1, 2, part(9, 16)}, {4, 1, 3, part(27, 64)}, {4, 2, 3, part(1, 8)}, {4, 3, 2, part(1, 16)}, {6, 2, 2, part(4, 9)}, {6, 4, 3, part(1, 27)}, {5, 2, 3, part(27, 125)},
		// Nothing is taken, or all.
		{4, 0, 0, part(1, 1)}, {4, 0, 1, part(1, 1)}, {4, 0, 50, part(1, 1)}, {60, 0, 50, part(1, 1)}, {1, 0, 50, part(1, 1)}, {4, 4, 0, part(1, 1)}, {4, 4, 1, part(0, 1)}, {4, 4, 50, part(0, 1)}, {1, 1, 0, part(1, 1)}, {1, 1, 1, part(0, 1)}, {1, 1, 50, part(0, 1)}, {60, 60, 1, part(0, 1)}, {60, 60, 50, part(0, 1)},
		// As fine as may be.
		{60, 1, 1, part(59, 60)}, {60, 59, 1, part(1, 60)}, {60, 1, 5, part(714924299, 777600000)}, {60, 59, 5, part(1, 777600000)}, {2, 1, 29, part(1, 536870912)}, {60, 30, 29, part(1, 536870912)}, {10, 9, 9, part(1, finest)}, {60, 54, 9, part(1, finest)}, {10, 1, 9, part(387420489, finest)}, {3, 1, 18, part(262144, 387420489)}, {59, 1, 5, part(656356768, 714924299)}, {57, 3, 7, part(612220032, 893871739)},
	} {
		if r, ok := impl.ThinShare(c.size, c.taken, c.times); r != c.want || !ok {
			t.Errorf("%v: %v, %t", c, r, ok)
		}
	}
	for _, c := range [][3]int{
		{0, 0, 0}, {0, 0, 1}, {-1, 0, 1}, {-1, -1, 0}, {61, 1, 1}, {61, 0, 0}, {61, 61, 1}, {least, 0, 0}, {greatest, 0, 0}, {greatest, greatest, 1}, {least, least, 1},
		{4, -1, 1}, {4, -1, 0}, {4, 5, 1}, {4, 5, 0}, {4, 60, 1}, {60, 61, 1}, {1, 2, 1}, {4, least, 0}, {4, greatest, 0},
		{4, 1, -1}, {4, 0, -1}, {4, 4, -1}, {4, 0, 51}, {4, 4, 51}, {4, 1, 51}, {4, 0, least}, {4, 0, greatest}, {4, 4, greatest},
		// Ratios that are none.
		{60, 1, 6}, {60, 1, 50}, {60, 59, 6}, {2, 1, 30}, {2, 1, 50}, {60, 30, 30}, {10, 9, 10}, {10, 1, 10}, {3, 1, 19}, {59, 58, 6}, {4, 1, 15}, {4, 1, 50},
	} {
		checkFails(t, fmt.Sprint(c, ": ThinShare"), all(impl.ThinShare(c[0], c[1], c[2]))...)
	}
}

func TestTimesToThin(t *testing.T) {
	for _, c := range []struct {
		size, taken int
		limit       ratio
		want        int
	}{
		// At a step's share, just above, and just below it.
		{4, 1, part(1, 1), 0}, {4, 1, part(finest-1, finest), 1}, {4, 1, part(3, 4), 1}, {4, 1, part(750000001, finest), 1}, {4, 1, part(749999999, finest), 2}, {4, 1, part(9, 16), 2}, {4, 1, part(562500001, finest), 2}, {4, 1, part(562499999, finest), 3}, {4, 1, part(1, 2), 3}, {4, 1, part(27, 64), 3}, {4, 2, part(1, 8), 3}, {4, 3, part(1, 5), 2},
		// Greater than 1, where nothing has to be done.
		{4, 1, part(finest, 1), 0}, {4, 1, part(finest, finest-1), 0}, {4, 1, part(2, 1), 0}, {4, 0, part(1, 1), 0}, {4, 0, part(2, 1), 0}, {4, 4, part(1, 1), 0}, {1, 0, part(1, 1), 0}, {60, 60, part(3, 2), 0},
		// All is taken.
		{4, 4, part(0, 1), 1}, {4, 4, part(1, finest), 1}, {4, 4, part(finest-1, finest), 1}, {1, 1, part(0, 1), 1}, {60, 60, part(0, 1), 1},
		// The last step whose share is a ratio.
		{2, 1, part(1, 536870912), 29}, {2, 1, part(1, 536870911), 29}, {10, 9, part(1, finest), 9}, {10, 9, part(1, finest-1), 9}, {60, 1, part(714924299, 777600000), 5}, {3, 1, part(262144, 387420489), 18}, {60, 1, part(59, 60), 1}, {60, 1, part(60, 61), 1},
	} {
		if n, ok := impl.TimesToThin(c.size, c.taken, c.limit); n != c.want || !ok {
			t.Errorf("%v: %d, %t", c, n, ok)
		}
	}
	type failing struct {
		size, taken int
		limit       ratio
	}
	cases := []failing{
		// No step will do: nothing is taken, something is always left, and nothing is less than 0.
		{4, 0, part(0, 1)}, {4, 0, part(finest-1, finest)}, {4, 0, part(-1, 1)}, {4, 1, part(0, 1)}, {60, 59, part(0, 1)}, {4, 4, part(-1, 1)}, {4, 4, part(-1, finest)}, {4, 1, part(-1, finest)}, {4, 1, part(-finest, 1)}, {1, 0, part(1, 2)}, {1, 1, part(-1, 2)},
		// A share is none ahead of the step that would do: the next one, or a later one.
		{2, 1, part(1, 536870913)}, {2, 1, part(1, finest)}, {10, 1, part(1, 3)}, {60, 1, part(9, 10)}, {60, 1, part(1, 2)}, {3, 1, part(1, 2000)}, {4, 1, part(1, 100)}, {60, 59, part(1, finest)},
	}
	for _, r := range noFineRatios {
		cases = append(cases, failing{4, 1, r}, failing{4, 4, r}, failing{4, 0, r})
	}
	for _, c := range [][2]int{{0, 0}, {-1, 0}, {61, 1}, {61, 61}, {4, -1}, {4, 5}, {1, 2}, {60, 61}, {least, 0}, {greatest, 0}, {4, least}, {4, greatest}, {least, least}, {greatest, greatest}} {
		cases = append(cases, failing{c[0], c[1], part(1, 1)}, failing{c[0], c[1], part(1, 2)}, failing{c[0], c[1], part(finest, 1)})
	}
	for _, c := range cases {
		checkFails(t, fmt.Sprint(c, ": TimesToThin"), all(impl.TimesToThin(c.size, c.taken, c.limit))...)
	}
}

// opposite returns a ratio times -1.
func opposite(r ratio) ratio {
	return part(-r.Num, r.Den)
}

// blendCase is two shares and a goal, with the amounts; both are 0 if there are none.
type blendCase struct {
	p, q, goal ratio
	x, y       int
}

var blendCases = []blendCase{
	{part(1, 2), part(1, 5), part(1, 4), 1, 5}, {part(0, 1), part(1, 1), part(1, 2), 1, 1}, {part(0, 1), part(1, 1), part(1, 3), 2, 1}, {part(1, 3), part(2, 3), part(1, 2), 1, 1}, {part(1, 3), part(1, 2), part(2, 5), 3, 2}, {part(1, 4), part(3, 4), part(5, 8), 1, 3}, {part(2, 1), part(5, 1), part(4, 1), 1, 2}, {part(1, 6), part(1, 10), part(1, 8), 3, 5},
	// The goal is at one of them.
	{part(1, 2), part(1, 5), part(1, 2), 1, 0}, {part(1, 2), part(1, 5), part(1, 5), 0, 1}, {part(0, 1), part(1, 1), part(0, 1), 1, 0}, {part(0, 1), part(1, 1), part(1, 1), 0, 1}, {part(finest, 1), part(-finest, 1), part(finest, 1), 1, 0}, {part(finest, 1), part(-finest, 1), part(-finest, 1), 0, 1}, {part(1, finest), part(1, finest-1), part(1, finest), 1, 0}, {part(1, finest), part(1, finest-1), part(1, finest-1), 0, 1},
	// All three are the same.
	{part(0, 1), part(0, 1), part(0, 1), 1, 0}, {part(1, 2), part(1, 2), part(1, 2), 1, 0}, {part(-1, 2), part(-1, 2), part(-1, 2), 1, 0}, {part(finest-1, finest), part(finest-1, finest), part(finest-1, finest), 1, 0}, {part(-finest, 1), part(-finest, 1), part(-finest, 1), 1, 0},
	// Both are the same, and the goal is not.
	{part(1, 2), part(1, 2), part(1, 3), 0, 0}, {part(1, 2), part(1, 2), part(2, 3), 0, 0}, {part(1, 2), part(1, 2), part(-1, 2), 0, 0}, {part(1, finest), part(1, finest), part(1, finest-1), 0, 0}, {part(0, 1), part(0, 1), part(1, finest), 0, 0},
	// The goal is outside on either side, by much and by little.
	{part(1, 2), part(1, 5), part(2, 3), 0, 0}, {part(1, 2), part(1, 5), part(1, 6), 0, 0}, {part(1, 5), part(1, 2), part(2, 3), 0, 0}, {part(1, 5), part(1, 2), part(1, 6), 0, 0}, {part(1, 2), part(1, 5), part(0, 1), 0, 0}, {part(1, 2), part(1, 5), part(-1, 4), 0, 0}, {part(1, 2), part(1, 5), part(finest, 1), 0, 0}, {part(1, 2), part(1, 5), part(500000001, finest), 0, 0}, {part(1, 2), part(1, 5), part(199999999, finest), 0, 0}, {part(1, finest-1), part(1, finest-2), part(1, finest), 0, 0}, {part(finest-2, finest-1), part(finest-3, finest-2), part(finest-1, finest), 0, 0},
	// Ratios of less than 0.
	{part(-1, 2), part(1, 2), part(0, 1), 1, 1}, {part(-1, 2), part(-1, 5), part(-1, 4), 1, 5}, {part(-1, 3), part(1, 2), part(0, 1), 3, 2}, {part(-3, 1), part(1, 1), part(-2, 1), 3, 1}, {part(-1, 1), part(-2, 1), part(-3, 2), 1, 1}, {part(-1, 2), part(1, 3), part(-1, 6), 3, 2},
	// Amounts at MaxNumber, and one above.
	{part(7, 1), part(0, 1), part(finest, 142857143), finest, 1}, {part(2, 7), part(0, 1), part(142857143, 500000001), 0, 0}, {part(1, finest-1), part(0, 1), part(1, finest), finest - 1, 1}, {part(1, finest), part(0, 1), part(1, finest-1), 0, 0},
	{part(-finest, 1), part(1, 1), part(0, 1), 1, finest}, {part(-finest, 1), part(1, finest), part(0, 1), 0, 0}, {part(1, 1), part(-finest, 1), part(0, 1), finest, 1}, {part(finest, 1), part(-1, 1), part(0, 1), 1, finest}, {part(1, finest), part(-1, 1), part(0, 1), finest, 1}, {part(1, finest), part(-3, 1), part(0, 1), 0, 0}, {part(1, finest), part(-3, 2), part(0, 1), 0, 0}, {part(finest-1, finest), part(-finest, 1), part(0, 1), 0, 0},
	// Products that no int holds, with small amounts, great ones, and such as are too great.
	{part(-999999999, finest), part(999999997, finest), part(-1, finest), 1, 1}, {part(999999999, finest), part(-999999997, finest), part(1, finest), 1, 1}, {part(finest, 999999999), part(-finest, 999999999), part(0, 1), 1, 1}, {part(finest, 999999997), part(-finest, 999999999), part(0, 1), 999999997, 999999999}, {part(finest, 999999999), part(-999999999, finest), part(0, 1), 0, 0},
	{part(-999999999, finest), part(999999997, finest), part(1, prime), 0, 0}, {part(-finest, 1), part(finest, 1), part(1, finest), 0, 0}, {part(finest, 999999999), part(-finest, 999999997), part(999999999, finest), 0, 0}, {part(-finest, prime), part(finest, prime), part(-finest+1, prime), 0, 0}, {part(-finest, prime), part(finest-2, prime), part(-1, prime), 1, 1}, {part(-finest, prime), part(999999996, prime), part(-500000001, prime), 3, 1},
}

func TestBlendAmounts(t *testing.T) {
	for _, c := range blendCases {
		for _, d := range []blendCase{c, {opposite(c.p), opposite(c.q), opposite(c.goal), c.x, c.y}, {c.q, c.p, c.goal, c.y, c.x}} {
			if d.p == d.q {
				d.x, d.y = c.x, c.y
			}
			x, y, ok := impl.BlendAmounts(d.p, d.q, d.goal)
			if x != d.x || y != d.y || ok != (x+y > 0) {
				t.Errorf("%v: %d, %d, %t", d, x, y, ok)
			}
		}
	}
	for _, none := range noFineRatios {
		for _, r := range []ratio{part(0, 1), part(1, 2), part(finest, finest-1), none} {
			for _, d := range [][3]ratio{{none, r, r}, {r, none, r}, {r, r, none}, {none, part(-finest, 1), r}, {part(finest, 1), none, r}, {part(-finest, 1), part(finest, 1), none}} {
				checkFails(t, fmt.Sprint(d, ": BlendAmounts"), all(impl.BlendAmounts(d[0], d[1], d[2]))...)
			}
		}
	}
}

// shareCase is brine, a goal, and the plan to this share, or that there is none of at most four moves.
type shareCase struct {
	brine brine
	goal  ratio
	plan  []string
	none  bool
}

// nearlyTooFine is brine whose lists of one move make only ratios, while the two moves t>0 and 0>1 make one that is none.
func nearlyTooFine() brine {
	return brineOf("3/4,0/3,1/2", part(1, 300000000), part(0, 1), part(1, 1))
}

var shareCases = []shareCase{
	// A vessel has the share at once: the first one, the last one, one that is not alone.
	{sea(), part(1, 2), nil, false}, {sea(), part(0, 1), nil, false}, {brineOf("0/4,5/5", wholes(0, 7)...), part(7, 5), nil, false}, {brineOf("60/60", part(1, 1)), part(1, 60), nil, false}, {brineOf("1/1,1/1,1/1,1/1,3/3", wholes(0, 0, 0, 0, 1)...), part(1, 3), nil, false}, {brineOf("1/1", part(finest, 1)), part(finest, 1), nil, false},
	// Several plans of one length: the first one in the order of moves.
	{sea(), part(1, 4), []string{"t>0"}, false}, {brineOf("4/4,3/3", wholes(4, 3)...), part(0, 1), []string{"0>d", "t>0"}, false}, {brineOf("2/4,2/4", wholes(2, 2)...), part(1, 2), []string{"t>0"}, false}, {brineOf("4/4,0/4", wholes(4, 0)...), part(0, 1), []string{"t>1"}, false}, {brineOf("4/4,0/2", wholes(4, 0)...), part(1, 2), []string{"0>1", "t>0"}, false}, {brineOf("2/4,2/2", wholes(2, 0)...), part(1, 2), []string{"t>0"}, false}, {brineOf("4/4,1/2", wholes(1, 1)...), part(1, 2), []string{"t>1"}, false},
	// Longer ones.
	{brineOf("4/4,0/3", wholes(4, 0)...), part(1, 4), []string{"0>1", "t>0"}, false}, {brineOf("4/4,1/2", wholes(4, 0)...), part(7, 8), []string{"0>1", "1>0"}, false}, {brineOf("4/4,1/2", wholes(4, 0)...), part(11, 16), []string{"0>1", "1>0", "0>1"}, false}, {brineOf("4/4,0/3", wholes(4, 0)...), part(3, 4), []string{"0>1", "0>d", "1>0", "t>0"}, false}, {brineOf("4/4,0/3", wholes(4, 0)...), part(1, 16), nil, true}, {brineOf("4/4,0/1", wholes(4, 0)...), part(3, 4), []string{"0>1", "t>0"}, false}, {brineOf("4/4,0/1", wholes(4, 0)...), part(9, 16), nil, true},
	// Vessels that hold nothing have no share.
	{brineOf("0/4", part(0, 1)), part(0, 1), []string{"t>0"}, false}, {brineOf("0/4,0/3", wholes(0, 0)...), part(0, 1), []string{"t>0"}, false}, {brineOf("1/4,0/3", wholes(1, 0)...), part(0, 1), []string{"t>1"}, false}, {brineOf("0/4,0/3", wholes(0, 0)...), part(1, 2), nil, true}, {brineOf("0/4", part(0, 1)), part(1, 1), nil, true},
	// None.
	{sea(), part(1, 1), nil, true}, {sea(), part(-1, 2), nil, true}, {sea(), part(finest, 1), nil, true}, {brineOf("1/1", part(1, 1)), part(1, 2), nil, true}, {brineOf("1/2", part(1, 1)), part(1, 3), nil, true}, {sea(), part(-1, finest), nil, true},
	// Lists that are no longer make a ratio that is none, which fails; longer ones do not matter.
	{nearlyTooFine(), part(1, 1), nil, false}, {nearlyTooFine(), part(1, 900000000), nil, false}, {nearlyTooFine(), part(1, 2), []string{"t>2"}, false}, {nearlyTooFine(), part(0, 1), []string{"t>1"}, false}, {nearlyTooFine(), part(1, 3), nil, true}, {brineOf("2/2,1/1,1/2", part(1, finest), part(0, 1), part(1, 1)), part(1, 2), nil, true}, {brineOf("2/2,0/2,1/2", part(1, finest), part(0, 1), part(2, 1)), part(1, 1), nil, true},
}

func TestPlanToShare(t *testing.T) {
	for _, c := range shareCases {
		for most := range 5 {
			plan, ok := impl.PlanToShare(c.brine, c.goal, most)
			if c.none || most < len(c.plan) {
				checkFails(t, fmt.Sprint(c, most, ": PlanToShare"), plan, ok)
			} else if !same(plan, readMoves(t, c.plan...)) || !ok {
				t.Errorf("%v, %d: %v, %t", c, most, plan, ok)
			}
		}
		for _, most := range []int{-1, 5, 6, least, greatest} {
			checkFails(t, fmt.Sprint(c, most, ": PlanToShare"), all(impl.PlanToShare(c.brine, c.goal, most))...)
		}
	}
	for _, none := range noFineRatios {
		for _, b := range brines() {
			checkFails(t, fmt.Sprint(b, none, ": PlanToShare"), all(impl.PlanToShare(b, none, 1))...)
		}
	}
}
