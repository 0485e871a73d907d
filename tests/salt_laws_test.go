package tests

import (
	"math/big"
	"math/rand"
	"slices"
	"testing"

	"loop.example/g01208/impl"
)

// solution is a second way to brine: sizes, what is held, and salt in numbers of any size and fineness.
type solution struct {
	sizes, held []int
	salt        []*big.Rat
}

// solutionOf returns brine as a solution.
func solutionOf(b brine) solution {
	s := solution{sizes: slices.Clone(b.Vessels.Sizes), held: slices.Clone(b.Vessels.Held)}
	for _, r := range b.Salt {
		s.salt = append(s.salt, rat(r))
	}
	return s
}

// isFine reports whether a number is a ratio of chapter 7.
func isFine(x *big.Rat) bool {
	return x.Num().CmpAbs(big.NewInt(finest)) <= 0 && x.Denom().Cmp(big.NewInt(finest)) <= 0
}

// poured returns the solution behind a pouring, the salt that goes to the drain, and whether all ratios that are made are some.
func (s solution) poured(from int, to int, amount int) (solution, *big.Rat, bool) {
	next := solution{s.sizes, slices.Clone(s.held), slices.Clone(s.salt)}
	taken, fine := number(0), true
	if from != tap {
		if amount > 0 {
			taken = product(over(s.salt[from], s.held[from]), amount)
		}
		next.held[from] -= amount
		next.salt[from] = minus(s.salt[from], taken)
		fine = isFine(taken) && isFine(next.salt[from])
	}
	if to == drain {
		return next, taken, fine
	}
	next.held[to] += amount
	next.salt[to] = plus(next.salt[to], taken)
	return next, number(0), fine && isFine(next.salt[to])
}

// moved returns the same behind a move.
func (s solution) moved(m move) (solution, *big.Rat, bool) {
	_, amount := poured(vessels{Sizes: s.sizes, Held: s.held}, m)
	return s.poured(m.From, m.To, amount)
}

// allSalt returns the sum of all salt.
func (s solution) allSalt() *big.Rat {
	sum := number(0)
	for _, x := range s.salt {
		sum = plus(sum, x)
	}
	return sum
}

// isBrineOf reports whether brine is just a solution, in lowest terms.
func isBrineOf(b brine, s solution) bool {
	if !same(b.Vessels.Sizes, s.sizes) || !same(b.Vessels.Held, s.held) || len(b.Salt) != len(s.salt) {
		return false
	}
	for i, r := range b.Salt {
		if !isExactly(r, s.salt[i]) {
			return false
		}
	}
	return true
}

// someSalts are what small vessels are tried with.
var someSalts = []ratio{part(0, 1), part(1, 1), part(2, 3), part(7, 2)}

// eachBrine calls f with all small vessels of so many and of a size at most, with each of the salts, of which the first one is 0, in all that hold something.
func eachBrine(count int, size int, salts []ratio, f func(b brine)) {
	eachVessels(count, size, func(v vessels) {
		eachList(times(0, count), times(len(salts)-1, count), func(list []int) {
			b := brine{Vessels: v}
			for i, which := range list {
				if v.Held[i] == 0 && which > 0 {
					return
				}
				b.Salt = append(b.Salt, salts[which])
			}
			f(b)
		})
	})
}

// drawnBrine returns brine that is drawn; its salt is small, or nearly as fine as may be.
func drawnBrine(r *rand.Rand) brine {
	var b brine
	count, size := 1+r.Intn(impl.MaxVessels), []int{4, 12, 60}[r.Intn(3)]
	for range count {
		full := 1 + r.Intn(size)
		b.Vessels.Sizes = append(b.Vessels.Sizes, full)
		b.Vessels.Held = append(b.Vessels.Held, r.Intn(3)*full/2)
	}
	for _, held := range b.Vessels.Held {
		salt := number(0)
		if held > 0 && r.Intn(4) > 0 {
			salt = big.NewRat(int64(r.Intn([]int{10, 1000000}[r.Intn(2)])), int64(1+r.Intn([]int{5, 60, 1000, 10000000}[r.Intn(4)])))
		}
		b.Salt = append(b.Salt, exact(salt))
	}
	return b
}

// eachSomeBrine calls f with all small brine and much that is drawn.
func eachSomeBrine(drawnOnes int, f func(b brine)) {
	eachBrine(1, 5, fineSalts(), f)
	eachBrine(2, 3, someSalts, f)
	eachBrine(3, 2, []ratio{part(0, 1), part(2, 3)}, f)
	r := drawn()
	for range drawnOnes {
		f(drawnBrine(r))
	}
}

// fineSalts returns all ratios of the tables that may be salt, and small ones.
func fineSalts() []ratio {
	salts := slices.Clone(someSalts)
	for _, r := range fineRatios {
		if r.Num >= 0 {
			salts = append(salts, r)
		}
	}
	return salts
}

// checkAmount checks PourAmount by the second way, and that salt is kept.
func checkAmount(t *testing.T, b brine, from int, to int, amount int) bool {
	t.Helper()
	got, ok := impl.PourAmount(b, from, to, amount)
	if from == to || amount < 0 || amount > b.Vessels.Held[from] || amount > b.Vessels.Sizes[to]-b.Vessels.Held[to] {
		checkFails(t, "PourAmount", got, ok)
		return false
	}
	want, _, fine := solutionOf(b).poured(from, to, amount)
	if !fine {
		checkFails(t, "PourAmount to a ratio that is none", got, ok)
		return false
	}
	if !ok || !impl.IsBrine(got) || !isBrineOf(got, want) {
		t.Fatalf("%v, %d from %d to %d: %v, %t, want %v", b, amount, from, to, got, ok, want)
	}
	if solutionOf(got).allSalt().Cmp(solutionOf(b).allSalt()) != 0 {
		t.Fatalf("%v, %d from %d to %d: %v does not keep the salt", b, amount, from, to, got)
	}
	return true
}

func TestAmountsOfBrineAgree(t *testing.T) {
	done, failed := 0, 0
	eachSomeBrine(1500, func(b brine) {
		for from := range b.Salt {
			for to := range b.Salt {
				for amount := -1; amount <= b.Vessels.Held[from]+1; amount++ {
					if checkAmount(t, b, from, to, amount) {
						done++
					} else {
						failed++
					}
				}
			}
		}
	})
	if done < 10000 || failed < 10000 {
		t.Errorf("%d pourings, %d fail", done, failed)
	}
}

// checkMove checks PourMove by the second way and by the calls that it stands for, and that salt is kept but for the drain.
func checkMove(t *testing.T, b brine, m move) {
	t.Helper()
	got, ok := impl.PourMove(b, m)
	want, lost, fine := solutionOf(b).moved(m)
	if !fine {
		checkFails(t, "PourMove to a ratio that is none", got, ok)
		return
	}
	if !ok || !impl.IsBrine(got) || !isBrineOf(got, want) {
		t.Fatalf("%v, %v: %v, %t, want %v", b, m, got, ok, want)
	}
	if plus(solutionOf(got).allSalt(), lost).Cmp(solutionOf(b).allSalt()) != 0 {
		t.Fatalf("%v, %v: %v does not keep the salt, %v is lost", b, m, got, lost)
	}
	if v, ok := impl.MakeMove(b.Vessels, m); !same(got.Vessels, v) || !ok {
		t.Fatalf("%v, %v: %v, where the vessels come to %v", b, m, got, v)
	}
	if m.From == tap || m.To == drain {
		return
	}
	amount, _ := impl.AmountOf(b.Vessels, m)
	if again, ok := impl.PourAmount(b, m.From, m.To, amount); !same(got, again) || !ok {
		t.Fatalf("%v, %v: %v, and as an amount %v, %t", b, m, got, again, ok)
	}
}

func TestMovesOfBrineAgree(t *testing.T) {
	eachSomeBrine(10000, func(b brine) {
		eachMove(len(b.Salt), func(m move) { checkMove(t, b, m) })
	})
}

// drawnMoves returns moves that are drawn; so many, of so many vessels.
func drawnMoves(r *rand.Rand, length int, count int) []move {
	var moves []move
	for len(moves) < length {
		m := fromTo(r.Intn(count+1)-1, r.Intn(count+1)-1)
		// What is poured between vessels mixes; the tap and the drain would soon leave no salt.
		if m.From != m.To && (m.From >= 0 && m.To >= 0 || count == 1 || r.Intn(8) == 0) {
			moves = append(moves, m)
		}
	}
	return moves
}

func TestListsOfMovesOfBrineAgree(t *testing.T) {
	r := drawn()
	done, failed := 0, 0
	for range 3000 {
		b := drawnBrine(r)
		moves := drawnMoves(r, r.Intn([]int{8, impl.MaxMoves + 1}[r.Intn(2)]), len(b.Salt))
		got, ok := impl.PourMoves(b, moves)
		one, all, lost := b, true, number(0)
		for _, m := range moves {
			next, fine := impl.PourMove(one, m)
			if !fine {
				all = false
				break
			}
			_, gone, _ := solutionOf(one).moved(m)
			one, lost = next, plus(lost, gone)
		}
		if ok != all || ok && !same(got, one) {
			t.Fatalf("%v, %v: %v, %t, and move by move %v, %t", b, moves, got, ok, one, all)
		}
		if !ok {
			checkFails(t, "PourMoves", got, ok)
			failed++
			continue
		}
		done++
		if plus(solutionOf(got).allSalt(), lost).Cmp(solutionOf(b).allSalt()) != 0 {
			t.Fatalf("%v, %v: %v does not keep the salt, %v is lost", b, moves, got, lost)
		}
	}
	if done < 300 || failed < 300 {
		t.Errorf("%d lists, %d fail", done, failed)
	}
}

// checkShares checks all functions that tell shares and sums by the second way.
func checkShares(t *testing.T, b brine) {
	t.Helper()
	s := solutionOf(b)
	var shares []*big.Rat
	sum, fineSum, fineShares, even := number(0), true, true, true
	for i, held := range s.held {
		sum = plus(sum, s.salt[i])
		fineSum = fineSum && isFine(sum)
		r, ok := impl.ShareOf(b, i)
		if held == 0 {
			checkFails(t, "ShareOf", r, ok)
			continue
		}
		share := over(s.salt[i], held)
		if fine := isFine(share); ok != fine || fine && !isExactly(r, share) || !fine && r != (ratio{}) {
			t.Fatalf("%v: share of %d %v, %t, want %v", b, i, r, ok, share)
		}
		shares = append(shares, share)
		fineShares = fineShares && isFine(share)
		even = even && share.Cmp(shares[0]) == 0
	}
	if r, ok := impl.TotalSalt(b); ok != fineSum || ok && !isExactly(r, sum) || !ok && r != (ratio{}) {
		t.Fatalf("%v: all salt %v, %t, want %v", b, r, ok, sum)
	}
	list, ok := impl.SharesOf(b)
	if ok != fineShares || ok && len(list) != len(shares) || !ok && len(list) > 0 {
		t.Fatalf("%v: shares %v, %t, want %v", b, list, ok, shares)
	}
	for i, r := range list {
		if !isExactly(r, shares[i]) {
			t.Fatalf("%v: shares %v, %t, want %v", b, list, ok, shares)
		}
	}
	if got, ok := impl.AreEven(b); ok != fineShares || got != (even && fineShares) {
		t.Fatalf("%v: even %t, %t, shares %v", b, got, ok, shares)
	}
	checkMixed(t, b, shares, sum, fineSum)
}

// checkMixed checks that the mixed share is the sum divided by all that is held, and between the least and the greatest of the shares.
func checkMixed(t *testing.T, b brine, shares []*big.Rat, sum *big.Rat, fineSum bool) {
	t.Helper()
	r, ok := impl.MixedShare(b)
	if len(shares) == 0 || !fineSum || !isFine(over(sum, sumOf(b.Vessels.Held))) {
		checkFails(t, "MixedShare", r, ok)
		return
	}
	slices.SortFunc(shares, func(a *big.Rat, b *big.Rat) int { return a.Cmp(b) })
	if !ok || !isExactly(r, over(sum, sumOf(b.Vessels.Held))) || rat(r).Cmp(shares[0]) < 0 || rat(r).Cmp(shares[len(shares)-1]) > 0 {
		t.Fatalf("%v: mixed share %v, %t, shares %v", b, r, ok, shares)
	}
}

func TestSharesAgree(t *testing.T) {
	eachSomeBrine(20000, func(b brine) { checkShares(t, b) })
}

func TestMovesLeadToEvenShares(t *testing.T) {
	even := 0
	eachSomeBrine(1000, func(b brine) {
		// All water in one vessel has the mixed share, if it is not filled up by others.
		for i := range b.Salt {
			now, ok := b, true
			for j := range b.Salt {
				if j != i && ok {
					now, ok = impl.PourMove(now, fromTo(j, i))
				}
			}
			mixed, fine := impl.MixedShare(b)
			if ok && fine && now.Vessels.Held[i] == sumOf(now.Vessels.Held) {
				even++
				r, ok := impl.ShareOf(now, i)
				if all, fine := impl.AreEven(now); r != mixed || !ok || !all || !fine {
					t.Fatalf("%v: %v, share %v, %t, mixed %v", b, now, r, ok, mixed)
				}
			}
		}
	})
	if even < 100 {
		t.Errorf("only %d are poured together", even)
	}
}

// eachThinning calls f with the shares behind the steps, as long as they are ratios, for all sizes and all that can be taken.
func eachThinning(f func(size int, taken int, shares []*big.Rat)) {
	for size := 1; size <= impl.MaxSize; size++ {
		for taken := range size + 1 {
			shares := []*big.Rat{number(1)}
			for len(shares) <= 50 {
				next := over(product(shares[len(shares)-1], size-taken), size)
				if !isFine(next) {
					break
				}
				shares = append(shares, next)
			}
			f(size, taken, shares)
		}
	}
}

func TestThinSharesAgree(t *testing.T) {
	eachThinning(func(size int, taken int, shares []*big.Rat) {
		for times := range 51 {
			r, ok := impl.ThinShare(size, taken, times)
			if times >= len(shares) {
				checkFails(t, "ThinShare", r, ok)
			} else if !ok || !isExactly(r, shares[times]) {
				t.Fatalf("%d, %d, %d: %v, %t, want %v", size, taken, times, r, ok, shares[times])
			}
		}
	})
}

func TestStepsOfThinningAreMoves(t *testing.T) {
	for size := 1; size <= impl.MaxSize; size++ {
		for taken := 1; taken <= size; taken++ {
			b := brine{Vessels: vessels{Sizes: []int{size, taken}, Held: []int{size, 0}}, Salt: wholes(size, 0)}
			for times := range 4 {
				r, ok := impl.ShareOf(b, 0)
				if thin, fine := impl.ThinShare(size, taken, times); r != thin || !ok || !fine {
					t.Fatalf("%d, %d, %d: %v, %t, and by moves %v, %t", size, taken, times, thin, fine, r, ok)
				}
				b, ok = impl.PourMoves(b, []move{fromTo(0, 1), fromTo(1, drain), fromTo(tap, 0)})
				if !ok {
					t.Fatalf("%d, %d, %d: no moves", size, taken, times)
				}
			}
		}
	}
}

// near returns ratios at a number, and just above and below it.
func near(x *big.Rat) []ratio {
	r := exact(x)
	list := []ratio{r}
	for _, step := range []int64{-1, 1} {
		if beside := plus(x, big.NewRat(step, int64(r.Den)*int64(max(1, finest/r.Den)))); isFine(beside) {
			list = append(list, exact(beside))
		}
	}
	return list
}

func TestTimesToThinAgree(t *testing.T) {
	eachThinning(func(size int, taken int, shares []*big.Rat) {
		limits := []ratio{part(1, 2), part(9, 10), part(1, 1000), part(0, 1), part(-1, 2), part(3, 2)}
		for _, share := range shares[:min(len(shares), 7)] {
			limits = append(limits, near(share)...)
		}
		limits = append(limits, near(shares[len(shares)-1])...)
		for _, limit := range limits {
			want := slices.IndexFunc(shares, func(share *big.Rat) bool { return share.Cmp(rat(limit)) <= 0 })
			n, ok := impl.TimesToThin(size, taken, limit)
			if want == -1 {
				checkFails(t, "TimesToThin", n, ok)
			} else if n != want || !ok {
				t.Fatalf("%d, %d, %v: %d, %t, want %d", size, taken, limit, n, ok, want)
			}
		}
	})
}

// blended returns the least amounts in numbers of any size, and whether there are some.
func blended(p ratio, q ratio, goal ratio) (*big.Int, *big.Int, bool) {
	up, down := difference(goal, q), difference(p, goal)
	switch {
	case up.Sign() == 0 && down.Sign() == 0, down.Sign() == 0:
		return big.NewInt(1), big.NewInt(0), true
	case up.Sign() == 0:
		return big.NewInt(0), big.NewInt(1), true
	case up.Sign() != down.Sign():
		return nil, nil, false
	}
	proportion := new(big.Rat).Quo(up, down)
	return proportion.Num(), proportion.Denom(), proportion.Num().IsInt64() && proportion.Num().Int64() <= finest && proportion.Denom().IsInt64() && proportion.Denom().Int64() <= finest
}

// checkBlend checks amounts by the second way, and that they have the share of the goal.
func checkBlend(t *testing.T, p ratio, q ratio, goal ratio) bool {
	t.Helper()
	x, y, ok := impl.BlendAmounts(p, q, goal)
	wantX, wantY, fine := blended(p, q, goal)
	if !fine {
		checkFails(t, "BlendAmounts", x, y, ok)
		return false
	}
	if !ok || big.NewInt(int64(x)).Cmp(wantX) != 0 || big.NewInt(int64(y)).Cmp(wantY) != 0 {
		t.Fatalf("%v, %v, %v: %d, %d, %t, want %v, %v", p, q, goal, x, y, ok, wantX, wantY)
	}
	if share := over(plus(product(rat(p), x), product(rat(q), y)), x+y); share.Cmp(rat(goal)) != 0 {
		t.Fatalf("%v, %v, %v: %d, %d have the share %v", p, q, goal, x, y, share)
	}
	return true
}

// leastBlend tries all amounts, least sum first.
func leastBlend(p ratio, q ratio, goal ratio, most int) (int, int) {
	for sum := 1; sum <= most; sum++ {
		for y := range sum + 1 {
			if share := over(plus(product(rat(p), sum-y), product(rat(q), y)), sum); share.Cmp(rat(goal)) == 0 {
				return sum - y, y
			}
		}
	}
	return 0, 0
}

func TestSmallBlendsAgree(t *testing.T) {
	var ratios []ratio
	for den := 1; den <= 4; den++ {
		for num := -den; num <= 2*den; num++ {
			if r := part(num, den); isLowest(r) {
				ratios = append(ratios, r)
			}
		}
	}
	for _, p := range ratios {
		for _, q := range ratios {
			for _, goal := range ratios {
				done := checkBlend(t, p, q, goal)
				x, y, _ := impl.BlendAmounts(p, q, goal)
				between := difference(goal, p).Sign()*difference(goal, q).Sign() <= 0 && (p != q || p == goal)
				if done != between {
					t.Fatalf("%v, %v, %v: %d, %d", p, q, goal, x, y)
				}
				// The way by all amounts is slow, so only small ones are looked at.
				if x+y <= 8 {
					if a, b := leastBlend(p, q, goal, x+y); a != x || b != y {
						t.Fatalf("%v, %v, %v: %d, %d, where %d, %d do", p, q, goal, x, y, a, b)
					}
				}
			}
		}
	}
}

// drawnFine returns a ratio that is drawn, with numbers up to most, or nearly as great as may be.
func drawnFine(r *rand.Rand, most int) ratio {
	num, den := r.Intn(2*most+1)-most, 1+r.Intn(most)
	if most == finest {
		num, den = r.Intn(100)-finest, finest-r.Intn(100)
		if r.Intn(2) == 0 {
			num = -num
		}
	}
	return exact(big.NewRat(int64(num), int64(den)))
}

func TestGreatBlendsAgree(t *testing.T) {
	r := drawn()
	done, failed := 0, 0
	count := func(fine bool) {
		if fine {
			done++
		} else {
			failed++
		}
	}
	for range 60000 {
		most := []int{9, 1000, 40000, finest}[r.Intn(4)]
		p, q, goal := drawnFine(r, most), drawnFine(r, most), drawnFine(r, most)
		count(checkBlend(t, p, q, goal))
		// From amounts to a goal, or from a goal to a share.
		x, y := 1+r.Intn(30), 1+r.Intn(30)
		if mixed := over(plus(product(rat(p), x), product(rat(q), y)), x+y); isFine(mixed) {
			count(checkBlend(t, p, q, exact(mixed)))
		}
		if other := over(minus(product(rat(goal), x+y), product(rat(p), x)), y); isFine(other) {
			count(checkBlend(t, p, exact(other), goal))
		}
	}
	if done < 10000 || failed < 10000 {
		t.Errorf("%d blends, %d fail", done, failed)
	}
}

// sharePlans tries all lists of at most so many moves, shorter ones first, and those of one length in their order. It returns the first one to each share, and the length of the lists among which one makes a ratio that is none; there it ends.
func sharePlans(s solution, most int) (map[ratio][]move, int) {
	plans := map[ratio][]move{}
	for length := range most + 1 {
		fine := true
		var walk func(s solution, moves []move)
		walk = func(s solution, moves []move) {
			if len(moves) == length {
				s.note(plans, moves)
				return
			}
			eachMove(len(s.sizes), func(m move) {
				if _, amount := poured(vessels{Sizes: s.sizes, Held: s.held}, m); amount > 0 && fine {
					next, _, all := s.moved(m)
					fine = fine && all
					walk(next, append(moves, m))
				}
			})
		}
		walk(s, nil)
		if !fine {
			return plans, length
		}
	}
	return plans, most + 1
}

// note puts moves down for all shares that vessels have behind them and that are not yet there.
func (s solution) note(plans map[ratio][]move, moves []move) {
	for i, held := range s.held {
		if held == 0 {
			continue
		}
		if share := over(s.salt[i], held); isFine(share) && plans[exact(share)] == nil {
			plans[exact(share)] = append([]move{}, moves...)
		}
	}
}

// checkSharePlan checks that a plan is the first one to a goal, for all lengths that may be told.
func checkSharePlan(t *testing.T, b brine, goal ratio, want []move, longest int) {
	t.Helper()
	for most := range longest + 1 {
		plan, ok := impl.PlanToShare(b, goal, most)
		if want == nil || len(want) > most {
			checkFails(t, "PlanToShare", plan, ok)
		} else if !ok || !same(plan, want) {
			t.Fatalf("%v, %v, %d: %v, %t, want %v", b, goal, most, plan, ok, want)
		}
	}
	if want == nil {
		return
	}
	behind, ok := impl.PourMoves(b, want)
	if shares, fine := impl.SharesOf(behind); !ok || fine && !slices.Contains(shares, goal) {
		t.Fatalf("%v, %v: %v leads to %v, %t, shares %v", b, goal, want, behind, ok, shares)
	}
}

// checkSharePlans checks plans to all shares that there are, to some that are not, and to those that lists lead to of which one that is no longer makes a ratio that is none. It counts plans by their length.
func checkSharePlans(t *testing.T, b brine, most int, counts map[int]int) {
	t.Helper()
	plans, none := sharePlans(solutionOf(b), most)
	for goal, plan := range plans {
		if len(plan) >= none {
			plan = nil
			counts[-1]++
		} else {
			counts[len(plan)]++
		}
		checkSharePlan(t, b, goal, plan, most)
	}
	for _, goal := range []ratio{part(1, 7), part(-1, 2), part(finest, 1)} {
		if plans[goal] == nil {
			checkSharePlan(t, b, goal, nil, most)
		}
	}
}

func TestPlansToSharesAgree(t *testing.T) {
	counts := map[int]int{}
	for _, s := range []string{"4/4,0/3", "2/4,3/3", "5/5,1/3", "7/9,2/6", "3/5,2/3,0/2"} {
		b := brineOf(s, wholes(4, 0)...)
		if len(b.Vessels.Sizes) > 2 {
			b.Salt = []ratio{part(2, 1), part(0, 1), part(0, 1)}
		}
		checkSharePlans(t, b, 4, counts)
	}
	eachBrine(1, 5, fineSalts(), func(b brine) { checkSharePlans(t, b, 3, counts) })
	eachBrine(2, 4, someSalts[:2], func(b brine) { checkSharePlans(t, b, 4, counts) })
	r := drawn()
	for range 1500 {
		b := drawnBrine(r)
		// There are too many lists of more moves of more vessels to try them all.
		checkSharePlans(t, b, min(4, 5-len(b.Salt)), counts)
	}
	for length, least := range map[int]int{-1: 200, 0: 1000, 1: 1000, 2: 1000, 3: 200, 4: 50} {
		if counts[length] < least {
			t.Errorf("only %d plans of %d moves", counts[length], length)
		}
	}
}
