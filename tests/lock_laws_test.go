package tests

import (
	"math/big"
	"math/rand"
	"slices"
	"strings"
	"testing"

	"loop.example/g01208/impl"
)

// lockWork is a second way through locks: every unit of water flows alone, into chambers and out of them.
type lockWork struct {
	lifts, held         []int
	stretches, fillings []int
}

func newLockWork(f flight) *lockWork {
	locks := len(f.Lifts)
	w := &lockWork{lifts: slices.Clone(f.Lifts), held: times(0, locks), stretches: times(0, locks+1), fillings: times(0, locks)}
	for i, full := range f.Full {
		if full {
			w.held[i] = f.Lifts[i]
		}
	}
	return w
}

// rise lets water into a chamber until it is at the level above it.
func (w *lockWork) rise(i int) {
	if w.held[i] < w.lifts[i] {
		w.fillings[i]++
	}
	for w.held[i] < w.lifts[i] {
		w.stretches[i+1]--
		w.held[i]++
	}
}

// sink lets water out of a chamber until it is at the level below it.
func (w *lockWork) sink(i int) {
	for w.held[i] > 0 {
		w.held[i]--
		w.stretches[i]++
	}
}

// run lets ships pass all locks, one ship after the other.
func (w *lockWork) run(ships string) {
	for _, ship := range ships {
		if ship == 'u' {
			for i := 0; i < len(w.lifts); i++ {
				w.sink(i)
				w.rise(i)
			}
		} else {
			for i := len(w.lifts) - 1; i >= 0; i-- {
				w.rise(i)
				w.sink(i)
			}
		}
	}
}

// flight returns the flight as it is now.
func (w *lockWork) flight() flight {
	f := flight{Lifts: slices.Clone(w.lifts)}
	for i, held := range w.held {
		f.Full = append(f.Full, held == w.lifts[i])
	}
	return f
}

// eachFlight calls f with all flights of so many locks with lifts of at most a lift.
func eachFlight(locks int, lift int, f func(f flight)) {
	eachList(times(1, locks), times(lift, locks), func(lifts []int) {
		eachList(times(0, locks), times(1, locks), func(full []int) {
			g := flight{Lifts: slices.Clone(lifts)}
			for _, x := range full {
				g.Full = append(g.Full, x == 1)
			}
			f(g)
		})
	})
}

// drawnFlight returns a flight that is drawn.
func drawnFlight(r *rand.Rand) flight {
	var f flight
	for range 1 + r.Intn(impl.MaxLocks) {
		f.Lifts = append(f.Lifts, 1+r.Intn(20))
		f.Full = append(f.Full, r.Intn(2) == 0)
	}
	return f
}

// drawnShips returns traffic that is drawn, of so many ships at most.
func drawnShips(r *rand.Rand, most int) string {
	ships := ""
	for range r.Intn(most + 1) {
		ships += []string{"u", "d"}[r.Intn(2)]
	}
	return ships
}

// eachSomeFlight calls f with all small flights, those of the tables, and many that are drawn.
func eachSomeFlight(drawnOnes int, f func(f flight)) {
	eachFlight(1, 20, f)
	eachFlight(2, 3, f)
	eachFlight(3, 2, f)
	eachFlight(impl.MaxLocks, 1, f)
	for _, g := range someFlights() {
		f(g)
	}
	r := drawn()
	for range drawnOnes {
		f(drawnFlight(r))
	}
}

// eachUse calls f with flights and traffic: short texts, those of the table, and such as are drawn.
func eachUse(f func(f flight, ships string)) {
	r := drawn()
	eachSomeFlight(300, func(g flight) {
		eachText("du", 4, func(ships string) { f(g, ships) })
		for _, ships := range someTraffic {
			f(g, ships)
		}
		for range 5 {
			f(g, drawnShips(r, impl.MaxShips))
		}
	})
}

// checkUse checks what traffic makes of a flight by the second way, and that water is kept.
func checkUse(t *testing.T, f flight, ships string) {
	t.Helper()
	w := newLockWork(f)
	before := sumOf(w.held)
	w.run(ships)
	behind, ok := impl.RunShips(f, ships)
	if !same(behind, w.flight()) || !ok {
		t.Fatalf("%v, %q: RunShips %v, %t, want %v", f, ships, behind, ok, w.flight())
	}
	changes, ok := impl.StretchChanges(f, ships)
	if !same(changes, w.stretches) || len(changes) != len(f.Lifts)+1 || !ok {
		t.Fatalf("%v, %q: StretchChanges %v, %t, want %v", f, ships, changes, ok, w.stretches)
	}
	if used, ok := impl.WaterUsed(f, ships); used != -w.stretches[len(f.Lifts)] || !ok {
		t.Fatalf("%v, %q: WaterUsed %d, %t, changes %v", f, ships, used, ok, w.stretches)
	}
	if fillings, ok := impl.FillingsOf(f, ships); !same(fillings, w.fillings) || !ok {
		t.Fatalf("%v, %q: FillingsOf %v, %t, want %v", f, ships, fillings, ok, w.fillings)
	}
	first, ok := impl.WaterInLocks(f)
	last, fine := impl.WaterInLocks(behind)
	if first != before || last != sumOf(w.held) || !ok || !fine {
		t.Fatalf("%v, %q: WaterInLocks %d, %t, and then %d, %t, want %d and %d", f, ships, first, ok, last, fine, before, sumOf(w.held))
	}
	if sumOf(changes)+last-first != 0 {
		t.Fatalf("%v, %q: changes %v, in locks %d and then %d", f, ships, changes, first, last)
	}
}

func TestTrafficAgreesAndKeepsWater(t *testing.T) {
	eachUse(func(f flight, ships string) {
		checkUse(t, f, ships)
	})
}

func TestHeightsOfFlightsAgree(t *testing.T) {
	eachSomeFlight(300, func(f flight) {
		if got, ok := impl.HeightOfFlight(f); got != sumOf(f.Lifts) || !ok {
			t.Fatalf("%v: %d, %t", f, got, ok)
		}
		full := flight{Lifts: f.Lifts, Full: slices.Repeat([]bool{true}, len(f.Lifts))}
		if got, ok := impl.WaterInLocks(full); got != sumOf(f.Lifts) || !ok {
			t.Fatalf("%v: %d, %t", full, got, ok)
		}
	})
}

// passedAll returns the flight behind a ship that passes one lock after the other.
func passedAll(t *testing.T, f flight, up bool) flight {
	t.Helper()
	for k := range f.Lifts {
		i := k
		if !up {
			i = len(f.Lifts) - 1 - k
		}
		next, ok := impl.PassLock(f, i, up)
		if !ok {
			t.Fatalf("%v, %d, %t: PassLock fails", f, i, up)
		}
		f = next
	}
	return f
}

func TestShipsPassLockByLock(t *testing.T) {
	eachSomeFlight(300, func(f flight) {
		for _, up := range []bool{true, false} {
			ship := map[bool]string{true: "u", false: "d"}[up]
			run, ok := impl.RunShip(f, up)
			alone, fine := impl.RunShips(f, ship)
			if want := passedAll(t, f, up); !same(run, want) || !same(alone, want) || !ok || !fine {
				t.Fatalf("%v, %s: RunShip %v, %t, RunShips %v, %t, want %v", f, ship, run, ok, alone, fine, want)
			}
		}
	})
}

func TestShipsRunOneAfterTheOther(t *testing.T) {
	r := drawn()
	eachUse(func(f flight, ships string) {
		behind := f
		for _, ship := range ships {
			behind, _ = impl.RunShip(behind, ship == 'u')
		}
		if got, ok := impl.RunShips(f, ships); !same(got, behind) || !ok {
			t.Fatalf("%v, %q: %v, %t, want %v", f, ships, got, ok, behind)
		}
		later := drawnShips(r, impl.MaxShips-len(ships))
		changes, _ := impl.StretchChanges(f, ships)
		more, _ := impl.StretchChanges(behind, later)
		together, ok := impl.StretchChanges(f, ships+later)
		for i := range together {
			together[i] -= changes[i] + more[i]
		}
		if !same(together, times(0, len(f.Lifts)+1)) || !ok {
			t.Fatalf("%v, %q and %q: %v more together, %t", f, ships, later, together, ok)
		}
	})
}

// checkChamber checks the changes of one chamber: filling and emptying undo each other, and passing is made of them.
func checkChamber(t *testing.T, f flight, i int) {
	t.Helper()
	other := flight{Lifts: f.Lifts, Full: slices.Clone(f.Full)}
	other.Full[i] = !f.Full[i]
	change, back := impl.FillLock, impl.EmptyLock
	if f.Full[i] {
		change, back = impl.EmptyLock, impl.FillLock
	}
	changed, ok := change(f, i)
	if !same(changed, other) || !ok {
		t.Fatalf("%v, %d: changed %v, %t", f, i, changed, ok)
	}
	if again, ok := back(changed, i); !same(again, f) || !ok {
		t.Fatalf("%v, %d: changed and back %v, %t", f, i, again, ok)
	}
	got, ok := back(f, i)
	checkFails(t, "a chamber that is stuck", got, ok)
	for _, up := range []bool{true, false} {
		want := other
		if f.Full[i] == up {
			want = f
		}
		if got, ok := impl.PassLock(f, i, up); !same(got, want) || !ok {
			t.Fatalf("%v, %d, %t: PassLock %v, %t", f, i, up, got, ok)
		}
	}
}

func TestFillingAndEmptyingUndoEachOther(t *testing.T) {
	eachSomeFlight(300, func(f flight) {
		for i := range f.Lifts {
			checkChamber(t, f, i)
		}
	})
}

// turned returns traffic with each ship in the other direction.
func turned(ships string) string {
	return strings.NewReplacer("u", "d", "d", "u").Replace(ships)
}

func TestMirroredFlightsMirrorWater(t *testing.T) {
	eachUse(func(f flight, ships string) {
		mirrored, ok := impl.ReverseFlight(f)
		if !impl.IsFlight(mirrored) || !ok {
			t.Fatalf("%v: ReverseFlight %v, %t", f, mirrored, ok)
		}
		if again, ok := impl.ReverseFlight(mirrored); !same(again, f) || !ok {
			t.Fatalf("%v: reversed twice %v, %t", f, again, ok)
		}
		height, _ := impl.HeightOfFlight(f)
		heightThere, _ := impl.HeightOfFlight(mirrored)
		water, _ := impl.WaterInLocks(f)
		rest, _ := impl.WaterInLocks(mirrored)
		if height != heightThere || water+rest != height {
			t.Fatalf("%v: heights %d and %d, in locks %d and %d", f, height, heightThere, water, rest)
		}
		behind, _ := impl.RunShips(f, ships)
		want, _ := impl.ReverseFlight(behind)
		if got, ok := impl.RunShips(mirrored, turned(ships)); !same(got, want) || !ok {
			t.Fatalf("%v, %q: mirrored %v, %t, want %v", f, ships, got, ok, want)
		}
		// What a stretch has more there, the one in its place here has less.
		changes, _ := impl.StretchChanges(f, ships)
		there, ok := impl.StretchChanges(mirrored, turned(ships))
		slices.Reverse(there)
		for i := range changes {
			if changes[i] != -there[i] || !ok {
				t.Fatalf("%v, %q: changes %v, mirrored and from above %v, %t", f, ships, changes, there, ok)
			}
		}
	})
}

// eachOrder calls f with all texts of so many ships up and down, in the order of texts.
func eachOrder(ups int, downs int, f func(ships string)) {
	text := make([]byte, ups+downs)
	var place func(i int, ups int)
	place = func(i int, ups int) {
		if i == len(text) {
			f(string(text))
			return
		}
		if len(text)-i > ups {
			text[i] = 'd'
			place(i+1, ups)
		}
		if ups > 0 {
			text[i] = 'u'
			place(i+1, ups-1)
		}
	}
	place(0, ups)
}

// checkOrders checks the least and the most water against all texts, of which each one uses what usedBy tells.
func checkOrders(t *testing.T, f flight, ups int, downs int, usedBy func(ships string) int) {
	t.Helper()
	first, less, more := "", greatest, least
	eachOrder(ups, downs, func(ships string) {
		used := usedBy(ships)
		if used < less {
			first, less = ships, used
		}
		more = max(more, used)
	})
	if got, ok := impl.LeastTraffic(f, ups, downs); got != first || !ok {
		t.Fatalf("%v, %d up, %d down: LeastTraffic %q, %t, want %q", f, ups, downs, got, ok, first)
	}
	if got, ok := impl.LeastWaterFor(f, ups, downs); got != less || !ok {
		t.Fatalf("%v, %d up, %d down: LeastWaterFor %d, %t, want %d", f, ups, downs, got, ok, less)
	}
	if got, ok := impl.MostWaterFor(f, ups, downs); got != more || !ok {
		t.Fatalf("%v, %d up, %d down: MostWaterFor %d, %t, want %d", f, ups, downs, got, ok, more)
	}
}

func TestLeastTrafficOfAllTexts(t *testing.T) {
	eachSomeFlight(50, func(f flight) {
		for ups := range 5 {
			for downs := range 5 {
				checkOrders(t, f, ups, downs, func(ships string) int {
					w := newLockWork(f)
					w.run(ships)
					return -w.stretches[len(f.Lifts)]
				})
			}
		}
	})
}

// All numbers of ships; of the flight only the highest chamber is filled and emptied here, as no other one takes water from the highest stretch.
func TestLeastTrafficOfManyShips(t *testing.T) {
	for _, f := range []flight{flightOf("#.", 20, 3), flightOf(".#", 20, 3)} {
		for ups := range 11 {
			for downs := range 11 {
				checkOrders(t, f, ups, downs, func(ships string) int {
					full, used := f.Full[1], 0
					for i := range len(ships) {
						up := ships[i] == 'u'
						if up || !full {
							used += 3
						}
						full = up
					}
					return used
				})
			}
		}
	}
}

func TestSavedPartsAgree(t *testing.T) {
	for basins := -2; basins <= 23; basins++ {
		good := basins >= 0 && basins <= 20
		share, ok := impl.SavedShare(basins)
		if !good {
			checkFails(t, "SavedShare", share, ok)
		} else if want := big.NewRat(int64(basins), int64(basins+2)); !isExactly(share, want) || !ok {
			t.Errorf("%d basins: %v, %t, want %v", basins, share, ok, want)
		}
		for lift := -2; lift <= 23; lift++ {
			saved, ok := impl.WaterSaved(lift, basins)
			if !good || lift < 1 || lift > 20 {
				checkFails(t, "WaterSaved", saved, ok)
			} else if want := product(rat(share), lift); !isExactly(saved, want) || !ok {
				t.Errorf("lift %d, %d basins: %v, %t, want %v", lift, basins, saved, ok, want)
			}
		}
	}
}
