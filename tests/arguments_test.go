package tests

import (
	"fmt"
	"reflect"
	"runtime"
	"slices"
	"strings"
	"testing"

	"loop.example/g01208/impl"
)

// arguments are those with which every function is called.
type arguments struct {
	V, W    vessels
	M       move
	Moves   []move
	I, J, K int
	Closed  bool
	S       string
	Siphon  siphon
	Level   level
	Inflows []int
	Chain   []siphon
	Caps    []int
	Held    []int
	Days    []int
	Other   []int
	Row     []basin
	Behind  []basin
	Flows   []int
	Tanks   []tank
	A, B    tank
	P, Q    ratio
	Joins   [][]int
	Brine   brine
	Goal    ratio
	Flight  flight
	Ships   string
	Up      bool
	C, D    clock
	Wheel   scoops
	Scale   scale
	Desk    desk
	Line    string
	Script  string
}

// calls are functions by their names.
type calls map[string]func(a arguments) []any

// vesselCalls are the functions of chapter 1.
var vesselCalls = calls{
	"AreVessels":   func(a arguments) []any { return all(impl.AreVessels(a.V)) },
	"SumHeld":      func(a arguments) []any { return all(impl.SumHeld(a.V)) },
	"RoomIn":       func(a arguments) []any { return all(impl.RoomIn(a.V, a.I)) },
	"IsMove":       func(a arguments) []any { return all(impl.IsMove(a.V, a.M)) },
	"AmountOf":     func(a arguments) []any { return all(impl.AmountOf(a.V, a.M)) },
	"MakeMove":     func(a arguments) []any { return all(impl.MakeMove(a.V, a.M)) },
	"MakeMoves":    func(a arguments) []any { return all(impl.MakeMoves(a.V, a.Moves)) },
	"StatesAlong":  func(a arguments) []any { return all(impl.StatesAlong(a.V, a.Moves)) },
	"TakenIn":      func(a arguments) []any { return all(impl.TakenIn(a.V, a.Moves)) },
	"MovesOn":      func(a arguments) []any { return all(impl.MovesOn(a.V, a.Closed)) },
	"IsUndone":     func(a arguments) []any { return all(impl.IsUndone(a.V, a.M)) },
	"SwapVessels":  func(a arguments) []any { return all(impl.SwapVessels(a.V, a.I, a.J)) },
	"ScaleVessels": func(a arguments) []any { return all(impl.ScaleVessels(a.V, a.I)) },
	"LeastScale":   func(a arguments) []any { return all(impl.LeastScale(a.V)) },
	"VesselsText":  func(a arguments) []any { return all(impl.VesselsText(a.V)) },
	"ParseVessels": func(a arguments) []any { return all(impl.ParseVessels(a.S)) },
	"MoveText":     func(a arguments) []any { return all(impl.MoveText(a.M)) },
	"ParseMove":    func(a arguments) []any { return all(impl.ParseMove(a.S)) },
}

// planCalls are the functions of chapter 2.
var planCalls = calls{
	"CountStates":     func(a arguments) []any { return all(impl.CountStates(a.V, a.Closed)) },
	"IsReached":       func(a arguments) []any { return all(impl.IsReached(a.V, a.W, a.Closed)) },
	"PlanTo":          func(a arguments) []any { return all(impl.PlanTo(a.V, a.W, a.Closed)) },
	"PlanToAmount":    func(a arguments) []any { return all(impl.PlanToAmount(a.V, a.I, a.Closed)) },
	"AmountsOf":       func(a arguments) []any { return all(impl.AmountsOf(a.V, a.Closed)) },
	"SumsOf":          func(a arguments) []any { return all(impl.SumsOf(a.V)) },
	"FarthestState":   func(a arguments) []any { return all(impl.FarthestState(a.V, a.Closed)) },
	"LayersOf":        func(a arguments) []any { return all(impl.LayersOf(a.V, a.Closed)) },
	"CountPlans":      func(a arguments) []any { return all(impl.CountPlans(a.V, a.W, a.Closed)) },
	"LastingStates":   func(a arguments) []any { return all(impl.LastingStates(a.V, a.Closed)) },
	"DivisorOf":       func(a arguments) []any { return all(impl.DivisorOf(a.V)) },
	"TwoVesselPlan":   func(a arguments) []any { return all(impl.TwoVesselPlan(a.I, a.J, a.K)) },
	"TwoVesselLength": func(a arguments) []any { return all(impl.TwoVesselLength(a.I, a.J, a.K)) },
	"LeastWater":      func(a arguments) []any { return all(impl.LeastWater(a.V, a.I)) },
	"WaterPlan":       func(a arguments) []any { return all(impl.WaterPlan(a.V, a.I)) },
}

// siphonCalls are the functions of chapter 3.
var siphonCalls = calls{
	"IsSiphon":       func(a arguments) []any { return all(impl.IsSiphon(a.Siphon)) },
	"IsSiphonLevel":  func(a arguments) []any { return all(impl.IsSiphonLevel(a.Siphon, a.Level)) },
	"TickSiphon":     func(a arguments) []any { return all(impl.TickSiphon(a.Siphon, a.Level, a.I)) },
	"OutsOf":         func(a arguments) []any { return all(impl.OutsOf(a.Siphon, a.Level, a.Inflows)) },
	"LevelsOf":       func(a arguments) []any { return all(impl.LevelsOf(a.Siphon, a.Level, a.Inflows)) },
	"SpiltOf":        func(a arguments) []any { return all(impl.SpiltOf(a.Siphon, a.Level, a.Inflows)) },
	"FirstRun":       func(a arguments) []any { return all(impl.FirstRun(a.Siphon, a.I)) },
	"PeriodOfSiphon": func(a arguments) []any { return all(impl.PeriodOfSiphon(a.Siphon, a.I)) },
	"PulseOf":        func(a arguments) []any { return all(impl.PulseOf(a.Siphon, a.I)) },
	"SpiltInPeriod":  func(a arguments) []any { return all(impl.SpiltInPeriod(a.Siphon, a.I)) },
	"NeverStops":     func(a arguments) []any { return all(impl.NeverStops(a.Siphon, a.I)) },
	"ChainOuts":      func(a arguments) []any { return all(impl.ChainOuts(a.Chain, a.Inflows)) },
	"PeriodOfChain":  func(a arguments) []any { return all(impl.PeriodOfChain(a.Chain, a.I)) },
	"CapacityOf":     func(a arguments) []any { return all(impl.CapacityOf(a.Siphon)) },
}

// bucketCalls are the functions of chapter 4.
var bucketCalls = calls{
	"AreCaps":     func(a arguments) []any { return all(impl.AreCaps(a.Caps)) },
	"HeldAfter":   func(a arguments) []any { return all(impl.HeldAfter(a.Caps, a.I)) },
	"TipsAfter":   func(a arguments) []any { return all(impl.TipsAfter(a.Caps, a.I)) },
	"TipsAtDrop":  func(a arguments) []any { return all(impl.TipsAtDrop(a.Caps, a.I)) },
	"DropsFor":    func(a arguments) []any { return all(impl.DropsFor(a.Caps, a.Held)) },
	"RoundOf":     func(a arguments) []any { return all(impl.RoundOf(a.Caps)) },
	"AddDrops":    func(a arguments) []any { return all(impl.AddDrops(a.Caps, a.Held, a.I)) },
	"BackDrops":   func(a arguments) []any { return all(impl.BackDrops(a.Caps, a.Held, a.I)) },
	"TipsOfRain":  func(a arguments) []any { return all(impl.TipsOfRain(a.J, a.Days)) },
	"RestOfRain":  func(a arguments) []any { return all(impl.RestOfRain(a.J, a.Days)) },
	"RangeOfTips": func(a arguments) []any { return all(impl.RangeOfTips(a.J, a.Days)) },
	"RangeOfTwo":  func(a arguments) []any { return all(impl.RangeOfTwo(a.J, a.K, a.Days, a.Other)) },
	"RainOfTips":  func(a arguments) []any { return all(impl.RainOfTips(a.J, a.Days)) },
	"FirstTip":    func(a arguments) []any { return all(impl.FirstTip(a.J, a.Days)) },
}

// weirCalls are the functions of chapter 5.
var weirCalls = calls{
	"IsRow":         func(a arguments) []any { return all(impl.IsRow(a.Row)) },
	"AreFlows":      func(a arguments) []any { return all(impl.AreFlows(a.Flows)) },
	"TickRow":       func(a arguments) []any { return all(impl.TickRow(a.Row, a.I)) },
	"RunRow":        func(a arguments) []any { return all(impl.RunRow(a.Row, a.Flows)) },
	"RowAfter":      func(a arguments) []any { return all(impl.RowAfter(a.Row, a.Flows)) },
	"HeldAlong":     func(a arguments) []any { return all(impl.HeldAlong(a.Row, a.J, a.Flows)) },
	"SpillsOf":      func(a arguments) []any { return all(impl.SpillsOf(a.Row, a.Flows)) },
	"FirstSpill":    func(a arguments) []any { return all(impl.FirstSpill(a.Row, a.Flows)) },
	"PeakOut":       func(a arguments) []any { return all(impl.PeakOut(a.Row, a.Flows)) },
	"HeldInRow":     func(a arguments) []any { return all(impl.HeldInRow(a.Row)) },
	"TicksToEmpty":  func(a arguments) []any { return all(impl.TicksToEmpty(a.Row)) },
	"SteadyHeld":    func(a arguments) []any { return all(impl.SteadyHeld(a.Row, a.I)) },
	"LeastSize":     func(a arguments) []any { return all(impl.LeastSize(a.Row, a.J, a.Flows)) },
	"JoinRows":      func(a arguments) []any { return all(impl.JoinRows(a.Row, a.Behind)) },
	"RunningTotals": func(a arguments) []any { return all(impl.RunningTotals(a.Flows)) },
	"IsHeldBack":    func(a arguments) []any { return all(impl.IsHeldBack(a.Row, a.Flows)) },
}

// levelCalls are the functions of chapter 6.
var levelCalls = calls{
	"IsTank":        func(a arguments) []any { return all(impl.IsTank(a.A)) },
	"LevelOf":       func(a arguments) []any { return all(impl.LevelOf(a.A)) },
	"AreTanks":      func(a arguments) []any { return all(impl.AreTanks(a.Tanks)) },
	"CommonLevel":   func(a arguments) []any { return all(impl.CommonLevel(a.Tanks)) },
	"WaterAfter":    func(a arguments) []any { return all(impl.WaterAfter(a.Tanks)) },
	"WetTanks":      func(a arguments) []any { return all(impl.WetTanks(a.Tanks)) },
	"WaterBelow":    func(a arguments) []any { return all(impl.WaterBelow(a.Tanks, a.P)) },
	"WaterForLevel": func(a arguments) []any { return all(impl.WaterForLevel(a.Tanks, a.P)) },
	"FlowInto":      func(a arguments) []any { return all(impl.FlowInto(a.Tanks, a.I)) },
	"PipeLevels":    func(a arguments) []any { return all(impl.PipeLevels(a.A, a.B, a.J)) },
	"FlowThrough":   func(a arguments) []any { return all(impl.FlowThrough(a.A, a.B, a.J)) },
	"AreJoins":      func(a arguments) []any { return all(impl.AreJoins(a.Tanks, a.Joins)) },
	"GroupsOf":      func(a arguments) []any { return all(impl.GroupsOf(a.Tanks, a.Joins)) },
	"GroupLevels":   func(a arguments) []any { return all(impl.GroupLevels(a.Tanks, a.Joins)) },
	"IsAtRest":      func(a arguments) []any { return all(impl.IsAtRest(a.Tanks, a.Joins)) },
	"FloodOrder":    func(a arguments) []any { return all(impl.FloodOrder(a.Tanks)) },
	"AddRatios":     func(a arguments) []any { return all(impl.AddRatios(a.P, a.Q)) },
}

// saltCalls are the functions of chapter 7.
var saltCalls = calls{
	"IsRatio":      func(a arguments) []any { return all(impl.IsRatio(a.P)) },
	"IsBrine":      func(a arguments) []any { return all(impl.IsBrine(a.Brine)) },
	"ShareOf":      func(a arguments) []any { return all(impl.ShareOf(a.Brine, a.I)) },
	"TotalSalt":    func(a arguments) []any { return all(impl.TotalSalt(a.Brine)) },
	"PourAmount":   func(a arguments) []any { return all(impl.PourAmount(a.Brine, a.I, a.J, a.K)) },
	"PourMove":     func(a arguments) []any { return all(impl.PourMove(a.Brine, a.M)) },
	"PourMoves":    func(a arguments) []any { return all(impl.PourMoves(a.Brine, a.Moves)) },
	"SharesOf":     func(a arguments) []any { return all(impl.SharesOf(a.Brine)) },
	"AreEven":      func(a arguments) []any { return all(impl.AreEven(a.Brine)) },
	"MixedShare":   func(a arguments) []any { return all(impl.MixedShare(a.Brine)) },
	"ThinShare":    func(a arguments) []any { return all(impl.ThinShare(a.I, a.J, a.K)) },
	"TimesToThin":  func(a arguments) []any { return all(impl.TimesToThin(a.I, a.J, a.P)) },
	"BlendAmounts": func(a arguments) []any { return all(impl.BlendAmounts(a.P, a.Q, a.Goal)) },
	"PlanToShare":  func(a arguments) []any { return all(impl.PlanToShare(a.Brine, a.Goal, a.K)) },
}

// lockCalls are the functions of chapter 8.
var lockCalls = calls{
	"IsFlight":       func(a arguments) []any { return all(impl.IsFlight(a.Flight)) },
	"IsTraffic":      func(a arguments) []any { return all(impl.IsTraffic(a.Ships)) },
	"PassLock":       func(a arguments) []any { return all(impl.PassLock(a.Flight, a.I, a.Up)) },
	"FillLock":       func(a arguments) []any { return all(impl.FillLock(a.Flight, a.I)) },
	"EmptyLock":      func(a arguments) []any { return all(impl.EmptyLock(a.Flight, a.I)) },
	"RunShip":        func(a arguments) []any { return all(impl.RunShip(a.Flight, a.Up)) },
	"RunShips":       func(a arguments) []any { return all(impl.RunShips(a.Flight, a.Ships)) },
	"StretchChanges": func(a arguments) []any { return all(impl.StretchChanges(a.Flight, a.Ships)) },
	"WaterUsed":      func(a arguments) []any { return all(impl.WaterUsed(a.Flight, a.Ships)) },
	"FillingsOf":     func(a arguments) []any { return all(impl.FillingsOf(a.Flight, a.Ships)) },
	"WaterInLocks":   func(a arguments) []any { return all(impl.WaterInLocks(a.Flight)) },
	"LeastTraffic":   func(a arguments) []any { return all(impl.LeastTraffic(a.Flight, a.I, a.J)) },
	"LeastWaterFor":  func(a arguments) []any { return all(impl.LeastWaterFor(a.Flight, a.I, a.J)) },
	"MostWaterFor":   func(a arguments) []any { return all(impl.MostWaterFor(a.Flight, a.I, a.J)) },
	"SavedShare":     func(a arguments) []any { return all(impl.SavedShare(a.I)) },
	"WaterSaved":     func(a arguments) []any { return all(impl.WaterSaved(a.I, a.J)) },
	"HeightOfFlight": func(a arguments) []any { return all(impl.HeightOfFlight(a.Flight)) },
	"ReverseFlight":  func(a arguments) []any { return all(impl.ReverseFlight(a.Flight)) },
}

// clockCalls are the functions of chapter 9.
var clockCalls = calls{
	"IsClock":       func(a arguments) []any { return all(impl.IsClock(a.C)) },
	"DropOf":        func(a arguments) []any { return all(impl.DropOf(a.C)) },
	"ClockAfter":    func(a arguments) []any { return all(impl.ClockAfter(a.C, a.I)) },
	"LevelsOfClock": func(a arguments) []any { return all(impl.LevelsOfClock(a.C)) },
	"TimeToEmpty":   func(a arguments) []any { return all(impl.TimeToEmpty(a.C)) },
	"TimeOfLevel":   func(a arguments) []any { return all(impl.TimeOfLevel(a.C, a.J)) },
	"MarksOf":       func(a arguments) []any { return all(impl.MarksOf(a.C, a.K)) },
	"LeastLevelFor": func(a arguments) []any { return all(impl.LeastLevelFor(a.J, a.I)) },
	"FirstMeeting":  func(a arguments) []any { return all(impl.FirstMeeting(a.C, a.D)) },
	"IsWheel":       func(a arguments) []any { return all(impl.IsWheel(a.Wheel)) },
	"WheelAfter":    func(a arguments) []any { return all(impl.WheelAfter(a.Wheel, a.I)) },
	"TurnTime":      func(a arguments) []any { return all(impl.TurnTime(a.Wheel)) },
	"TimesOfScoop":  func(a arguments) []any { return all(impl.TimesOfScoop(a.Wheel, a.K, a.I)) },
	"SpiltByWheel":  func(a arguments) []any { return all(impl.SpiltByWheel(a.Wheel, a.I)) },
	"ScaleEvents":   func(a arguments) []any { return all(impl.ScaleEvents(a.Scale, a.J)) },
	"PeriodOfScale": func(a arguments) []any { return all(impl.PeriodOfScale(a.Scale)) },
}

// consoleCalls are the functions of chapter 10.
var consoleCalls = calls{
	"FirstDesk":   func(a arguments) []any { return all(impl.FirstDesk()) },
	"IsDesk":      func(a arguments) []any { return all(impl.IsDesk(a.Desk)) },
	"DeskLine":    func(a arguments) []any { return all(impl.DeskLine(a.Desk, a.Line)) },
	"RunScript":   func(a arguments) []any { return all(impl.RunScript(a.Script)) },
	"DeskAfter":   func(a arguments) []any { return all(impl.DeskAfter(a.Script)) },
	"FailedLines": func(a arguments) []any { return all(impl.FailedLines(a.Script)) },
}

// oddVessels returns vessels and values that are none, all with spare capacity.
func oddVessels() []vessels {
	list := []vessels{
		{Sizes: []int{3, 5}, Held: []int{0, 5}},
		{Sizes: []int{4, 6}, Held: []int{2, 4}},
		{Sizes: []int{60}, Held: []int{0}},
		{Sizes: []int{60, 60, 60, 60, 60}, Held: []int{60, 0, 30, 59, 1}},
	}
	for _, v := range noVessels {
		list = append(list, v)
	}
	for i, v := range list {
		list[i] = spareVessels(v)
	}
	return append(list, vessels{})
}

// oddMoves returns moves and values that are none.
func oddMoves() []move {
	numbers := []int{least, -2, -1, 0, 1, 4, 5, greatest}
	var moves []move
	for _, from := range numbers {
		for _, to := range numbers {
			moves = append(moves, fromTo(from, to))
		}
	}
	return moves
}

// oddLists returns lists of moves, and lists that are none, all with spare capacity.
func oddLists() [][]move {
	lists := [][]move{
		{},
		{fromTo(0, drain)},
		{fromTo(tap, 0), fromTo(0, drain), fromTo(tap, 0)},
		{fromTo(1, 0), fromTo(0, drain), fromTo(1, 0)},
		{fromTo(0, 1), fromTo(1, 2), fromTo(2, 3), fromTo(3, 4), fromTo(4, 0)},
		{fromTo(0, drain), fromTo(tap, drain)},
		{fromTo(least, greatest)},
		repeated(fromTo(0, drain), 100),
		repeated(fromTo(0, drain), 101),
	}
	for i, list := range lists {
		lists[i] = spareMoves(list)
	}
	return append(lists, nil)
}

// longArguments are arguments far longer than the limits.
func longArguments() arguments {
	return arguments{
		V:     spareVessels(vessels{Sizes: make([]int, 100000), Held: make([]int, 100000)}),
		W:     spareVessels(vessels{Sizes: make([]int, 100000), Held: make([]int, 100000)}),
		Moves: spareMoves(repeated(fromTo(0, drain), 100000)),
		S:     strings.Repeat("0/1,", 100000),

		Siphon:  siphon{Size: 10, Low: 1, Start: 8, Flow: 4},
		Inflows: spare(times(3, 100000), mark),
		Chain:   spareChain(slices.Repeat([]siphon{{Size: 10, Low: 1, Start: 8, Flow: 4}}, 100000)),

		Caps:  spare(times(2, 100000), mark),
		Held:  spare(times(1, 100000), mark),
		Days:  spare(times(3, 100000), mark),
		Other: spare(times(3, 100000), mark),

		Row:    spareRow(slices.Repeat([]basin{basinWith(5, 2, 1)}, 100000)),
		Behind: spareRow(slices.Repeat([]basin{basinWith(5, 2, 1)}, 100000)),
		Flows:  spare(times(4, 100000), mark),

		Tanks: spareTanks(slices.Repeat([]tank{wide}, 100000)),
		A:     wide,
		B:     high,
		P:     part(4, 1),
		Q:     part(1, 2),
		Joins: spareJoins(append(slices.Repeat([][]int{{0, 1}}, 1000), times(0, 100000))),

		Brine: spareBrine(brine{Vessels: vessels{Sizes: times(1, 100000), Held: times(1, 100000)}, Salt: wholes(times(0, 100000)...)}),
		Goal:  part(1, 4),

		Flight: spareFlight(flight{Lifts: times(5, 100000), Full: make([]bool, 100000)}),
		Ships:  strings.Repeat("ud", 100000),

		C:     clockWith(1000, 100),
		D:     clockWith(999, 100),
		Wheel: wheelWith(2, 1, 1),
		Scale: scaleWith(1, 1, 1000),

		Desk:   spareDesk(desk{Vessels: vessels{Sizes: make([]int, 100000), Held: make([]int, 100000)}, Taken: 7}),
		Line:   strings.Repeat("show ", 100000),
		Script: strings.Repeat("show\n", 100000),
	}
}

// eachArguments calls f with many arguments, ordinary and odd ones beside each other.
func eachArguments(f func(a arguments)) {
	numbers := []int{least, -1, 0, 1, 2, 4, 5, 60, 61, greatest}
	texts := []string{"", "0/3,5/5", "1>0", "t>4", "4>d", "0/3,", "00/3", ">", "\xff\x00", strings.Repeat("9", 100)}
	moves, lists := oddMoves(), oddLists()
	for _, v := range oddVessels() {
		for i, m := range moves {
			f(arguments{V: v, M: m, I: numbers[i%len(numbers)], J: 1, S: texts[i%len(texts)], Closed: i%2 == 0})
		}
		for i, list := range lists {
			f(arguments{V: v, M: fromTo(0, drain), Moves: list, I: i % 3, J: numbers[i%len(numbers)], S: texts[i%len(texts)]})
		}
		for i := range 3 {
			for j := range 3 {
				f(arguments{V: v, M: fromTo(i, j), Moves: lists[1], I: i, J: j, S: texts[1+i], Closed: true})
			}
		}
	}
	f(longArguments())
}

// eachPlanArguments calls f with arguments of plans: each odd vessels beside others, and numbers that may be any.
func eachPlanArguments(f func(a arguments)) {
	numbers := []int{least, -1, 0, 1, 2, 4, 5, 60, 61, greatest}
	list := append(oddVessels(), spareVessels(vessels{Sizes: []int{3, 5}, Held: []int{3, 2}}), spareVessels(vessels{Sizes: []int{4, 6}, Held: []int{0, 0}}))
	for i, v := range list {
		for j, w := range list {
			f(arguments{V: v, W: w, I: numbers[(i+j)%len(numbers)], J: numbers[i%len(numbers)], K: numbers[j%len(numbers)], Closed: (i+j)%2 == 0})
		}
		f(arguments{V: v, W: v, I: 2, J: 5, K: 4, Closed: true})
	}
	small := spareVessels(vessels{Sizes: []int{3, 5}, Held: []int{0, 5}})
	for i, a := range numbers {
		for _, b := range numbers {
			for j, amount := range numbers {
				f(arguments{V: small, W: small, I: a, J: b, K: amount, Closed: (i+j)%2 == 0})
			}
		}
	}
	f(longArguments())
}

// spareChain returns a list of siphons with marks in its spare capacity.
func spareChain(chain []siphon) []siphon {
	return spare(chain, siphon{Size: mark, Low: mark, Start: mark, Flow: mark})
}

// oddChains returns chains, and lists that are none, all with spare capacity.
func oddChains() [][]siphon {
	a, b := siphon{Size: 10, Low: 1, Start: 8, Flow: 4}, siphon{Size: 5, Low: 0, Start: 5, Flow: 2}
	chains := [][]siphon{{}, {a}, {a, b}, {b, a, b, a}, {a, b, a, b, a}, justRound, moreRound}
	for _, s := range noSiphons {
		chains = append(chains, []siphon{s}, []siphon{a, s})
	}
	for i, chain := range chains {
		chains[i] = spareChain(chain)
	}
	return append(chains, nil)
}

// oddInflows returns inflows, and lists that are none, all with spare capacity.
func oddInflows() [][]int {
	lists := [][]int{{}, {0}, {60}, {3, 3, 3, 3, 3, 3, 3}, times(7, 100), times(7, 101), {3, 61}, {3, -1}, {least, greatest}, {greatest}}
	for i, list := range lists {
		lists[i] = spare(list, mark)
	}
	return append(lists, nil)
}

// eachSiphonArguments calls f with arguments of siphons: each odd siphon and each odd chain beside levels, inflows and lists of them that may be any.
func eachSiphonArguments(f func(a arguments)) {
	numbers := []int{least, -1, 0, 1, 3, 60, 61, greatest}
	siphons := append([]siphon{{Size: 10, Low: 1, Start: 8, Flow: 4}, {Size: 60, Low: 0, Start: 60, Flow: 2}, {Size: 1, Low: 0, Start: 1, Flow: 60}}, noSiphons...)
	chains, lists := oddChains(), oddInflows()
	for i, s := range siphons {
		for j, x := range numbers {
			for k, held := range numbers {
				f(arguments{Siphon: s, Level: level{Held: held, Running: (j+k)%2 == 0}, I: x, Chain: chains[(i+j)%len(chains)], Inflows: lists[(j+k)%len(lists)]})
			}
		}
	}
	for i, chain := range chains {
		for j, list := range lists {
			f(arguments{Siphon: siphons[j%2], Level: level{Held: i % 10, Running: j%2 == 0}, I: numbers[j%len(numbers)], Chain: chain, Inflows: list})
		}
	}
	f(longArguments())
}

// spareLists returns the lists and an empty one, all with marks in their spare capacity, and nil.
func spareLists(lists ...[]int) [][]int {
	marked := [][]int{nil, spare([]int{}, mark)}
	for _, list := range lists {
		marked = append(marked, spare(list, mark))
	}
	return marked
}

// eachBucketArguments calls f with arguments of buckets and gauges: caps beside what is held and numbers of drops, and rooms beside rain and tips, all of which may be any.
func eachBucketArguments(f func(a arguments)) {
	drops := []int{least, -1, 0, 1, 6, 30, impl.MaxDrops, impl.MaxDrops + 1, greatest}
	rooms := []int{least, -1, 0, 1, 4, 5, 60, 61, greatest}
	caps := spareLists(append([][]int{wheel, {2}, {60}, greatestWheel}, noCaps...)...)
	held := spareLists(append([][]int{{1, 2, 4}, {1}, {59}, {59, 59, 59, 59, 59, 59}}, noHeldByWheel...)...)
	days := spareLists(append([][]int{{3, 2, 9}, {0, 1, 2}, {2}, {10000}, times(10000, 100)}, noDays...)...)
	for i, c := range caps {
		for j, h := range held {
			for k, n := range drops {
				f(arguments{Caps: c, Held: h, I: n, J: rooms[(i+j)%len(rooms)], K: rooms[k], Days: days[(i+k)%len(days)], Other: days[j%len(days)]})
			}
		}
	}
	for _, a := range rooms {
		for _, b := range rooms {
			for i, list := range days {
				f(arguments{Caps: caps[2], Held: held[2], I: a, J: a, K: b, Days: list, Other: days[i*7%len(days)]})
				f(arguments{Caps: caps[2], Held: held[2], I: b, J: a, K: b, Days: list, Other: list})
			}
		}
	}
	f(longArguments())
}

// spareRows returns the rows and an empty one, all with marks in their spare capacity, and nil.
func spareRows(rows ...[]basin) [][]basin {
	marked := [][]basin{nil, spareRow(nil)}
	for _, row := range rows {
		marked = append(marked, spareRow(row))
	}
	return marked
}

// eachWeirArguments calls f with arguments of rows: rows beside others, flows, indices and amounts, all of which may be any.
func eachWeirArguments(f func(a arguments)) {
	amounts := []int{least, -1, 0, 1, 3, impl.MaxFlow, impl.MaxFlow + 1, greatest}
	indices := []int{least, -1, 0, 1, 2, 5, 6, greatest}
	rows := spareRows(append(someRows(), noRows()...)...)
	lists := spareLists(append(someFlows(), noFlows()...)...)
	for i, row := range rows {
		for j := i % 5; j < len(lists); j += 5 {
			f(arguments{Row: row, Flows: lists[j], I: amounts[(i+j)%len(amounts)], J: indices[j*3%len(indices)], Behind: rows[i*j%len(rows)]})
			f(arguments{Row: row, Flows: lists[j], I: amounts[j%len(amounts)], J: len(row) - 1, Behind: rows[j%len(rows)]})
		}
	}
	for i, row := range spareRows(someRows()...) {
		for j, amount := range amounts {
			for k, index := range indices {
				f(arguments{Row: row, Flows: lists[(i+j+k)%(2+len(someFlows()))], I: amount, J: index, Behind: rows[(i+j*k)%len(rows)]})
			}
		}
	}
	f(longArguments())
}

// eachLevelArguments calls f with arguments of tanks: lists of them beside joins, ratios, indices and heights, all of which may be any.
func eachLevelArguments(f func(a arguments)) {
	indices := []int{least, -1, 0, 1, 5, 6, greatest}
	heights := []int{least, -1, 0, 3, 4, 100, 1000, 1001, greatest}
	ratios := slices.Concat(someLevels, someRatios, noLevels, noRatios)
	single := append([]tank{wide, high, tankWith(1, 0, 0), tankWith(50, 100, impl.MaxWater), tankWith(1, 3, 9)}, noTanks...)
	joins := append(slices.Clone(noJoins), nil, [][]int{})
	for _, c := range groupCases {
		joins = append(joins, c.joins)
	}
	lists := append(tankLists(), six())
	for i, tanks := range append(lists, noTankLists()...) {
		for j, list := range joins {
			// All joins beside tanks, but only some of them beside lists that are none.
			if i < len(lists) || j%9 == i%9 {
				f(arguments{Tanks: spareTanks(tanks), Joins: spareJoins(list), I: indices[(i+j)%len(indices)], P: ratios[(i*7+j)%len(ratios)], A: single[j%len(single)], B: single[i%len(single)], J: heights[(i+j)%len(heights)], Q: ratios[i*j%len(ratios)]})
			}
		}
	}
	for i, a := range single {
		for j, b := range single {
			for k, height := range heights {
				f(arguments{A: a, B: b, J: height, P: ratios[(i*31+j)%len(ratios)], Q: ratios[(j*17+k)%len(ratios)]})
			}
		}
	}
	for i, p := range ratios {
		for j := i % 3; j < len(ratios); j += 3 {
			f(arguments{Tanks: lists[j%len(lists)], P: p, Q: ratios[j]})
		}
	}
	f(longArguments())
}

// eachSaltArguments calls f with arguments of brine: brine beside moves, lists of them, amounts, indices and ratios, and sizes beside what is taken, all of which may be any.
func eachSaltArguments(f func(a arguments)) {
	numbers := []int{least, -1, 0, 1, 2, 3, 4, 5, 50, 51, 60, 61, greatest}
	ratios := append(slices.Clone(fineRatios), noFineRatios...)
	moves, lists := oddMoves(), oddLists()
	for i, b := range append(brines(), nearlyTooFine()) {
		for j, x := range numbers {
			for k, y := range numbers {
				f(arguments{Brine: spareBrine(b), I: x, J: y, K: numbers[(i+j+k)%len(numbers)], M: moves[(i*7+j*13+k)%len(moves)], Moves: lists[(j+k)%len(lists)], P: ratios[(i+j*k)%len(ratios)], Q: ratios[(i*j+k)%len(ratios)], Goal: ratios[(i*3+j*5+k*7)%len(ratios)]})
			}
		}
		for j, m := range moves {
			f(arguments{Brine: spareBrine(b), I: 0, J: 1, K: j % 5, M: m, Moves: lists[j%len(lists)], P: ratios[j%len(ratios)], Goal: part(1, 2)})
		}
	}
	for i, b := range noBrines() {
		f(arguments{Brine: spareBrine(b), I: i % 3, J: 1, K: i % 5, M: fromTo(tap, 0), Moves: lists[i%len(lists)], P: ratios[i%len(ratios)], Goal: part(0, 1)})
		f(arguments{Brine: b, I: 1, J: 0, K: 0, M: fromTo(0, 1), P: ratios[i%len(ratios)], Goal: part(1, 2)})
	}
	for i, p := range ratios {
		for j, q := range ratios {
			f(arguments{Brine: sea(), I: numbers[i%len(numbers)], J: numbers[j%len(numbers)], P: p, Q: q, Goal: ratios[(i*j+i+j)%len(ratios)]})
			f(arguments{Brine: sea(), I: 4, J: i % 5, K: j % 4, P: p, Q: p, Goal: q})
		}
	}
	f(longArguments())
}

// eachLockArguments calls f with arguments of locks: flights beside traffic, indices and numbers of ships, and lifts beside basins, all of which may be any.
func eachLockArguments(f func(a arguments)) {
	numbers := []int{least, -1, 0, 1, 2, 5, 6, 10, 11, 20, 21, greatest}
	flights, texts := someFlights(), append(slices.Clone(someTraffic), noTraffic()[:40]...)
	for i, g := range flights {
		for j, x := range numbers {
			for k, y := range numbers {
				f(arguments{Flight: spareFlight(g), Ships: texts[(i*31+j*7+k)%len(texts)], I: x, J: y, Up: (j+k)%2 == 0})
			}
		}
		for j, ships := range someTraffic {
			f(arguments{Flight: spareFlight(g), Ships: ships, I: j % len(g.Lifts), J: j % 11, Up: j%2 == 0})
		}
	}
	for i, g := range noFlights() {
		f(arguments{Flight: spareFlight(g), Ships: texts[i%len(texts)], I: i % 7, J: i % 11, Up: i%2 == 0})
		f(arguments{Flight: g, Ships: "ud", I: 0, J: 1, Up: i%2 == 1})
	}
	for i, ships := range noTraffic() {
		f(arguments{Flight: flights[i%len(flights)], Ships: ships, I: numbers[i%len(numbers)], J: 1, Up: i%2 == 0})
	}
	f(longArguments())
}

// eachClockArguments calls f with arguments of clocks: clocks, wheels and scales beside times, levels, hours and scoops, all of which may be any.
func eachClockArguments(f func(a arguments)) {
	numbers := []int{least, -1, 0, 1, 2, 4, 24, 25, 60, 100, 101, 200, 201, 1000, 1001, 10000, 10001, greatest}
	clocks, wheels, scales := slices.Concat(someClocks, noClocks), slices.Concat(someWheels, noWheels), slices.Concat(someScales, noScales)
	for i, x := range numbers {
		for j, y := range numbers {
			f(arguments{C: clocks[(i+j)%len(someClocks)], D: clocks[(i*5+j*7)%len(clocks)], Wheel: wheels[(i+j)%len(someWheels)], Scale: scales[(i+j)%len(someScales)], I: x, J: y, K: numbers[(i*7+j*5)%len(numbers)]})
		}
	}
	for i, c := range clocks {
		for j, d := range clocks {
			f(arguments{C: c, D: d, Wheel: wheels[(i+j)%len(wheels)], Scale: scales[(i+j)%len(scales)], I: numbers[2+j%14], J: numbers[2+i%10], K: (i + j) % 7})
		}
	}
	f(longArguments())
}

// spareDesk returns a desk with marks in the spare capacity of its lists.
func spareDesk(d desk) desk {
	return desk{Vessels: spareVessels(d.Vessels), Taken: d.Taken}
}

// eachConsoleArguments calls f with arguments of the console: desks beside lines, and scripts, all of which may be any. Each number of a desk is any in its turn.
func eachConsoleArguments(f func(a arguments)) {
	lines := []string{"", " ", "fly", "show\n", "\xff\x00", strings.Repeat("x", 3000), strings.Repeat("x", 3001), "vessels " + hugeVessels, "move t>1", "move 4>4", "swap 0 9", "scale 0", "scale 13", "plan 61", "plan 4 ", "caps 2 999999", "caps 0,999999 1", "rain 4 1000000", "wheel 60 60 1 10000", "clock 1000 100", "thin 60 1 50"}
	for _, row := range rows {
		lines = append(lines, row.line)
	}
	numbers := []int{least, least + 1, -1, 0, 1, 3, 5, 60, 61, 999999, impl.MaxTaken, impl.MaxTaken + 1, greatest - 1, greatest}
	desks := append(noDesks(), deskOf("0/3,5/5", 7), deskOf("2/3,1/5,0/2", impl.MaxTaken), deskOf("1/2", 0), deskOf(hugeVessels, 1))
	for _, x := range numbers {
		for place := range 5 {
			d := deskOf("0/3,5/5", 7)
			*[]*int{&d.Vessels.Sizes[0], &d.Vessels.Sizes[1], &d.Vessels.Held[0], &d.Vessels.Held[1], &d.Taken}[place] = x
			desks = append(desks, d)
		}
	}
	scripts := append(noScripts(), "", "\n", strings.Repeat("\n", 50), scriptOf(lines[:5]), scriptOf(lines[8:]), "move t>0\nmove 0>d\ntaken\n", "fly\nshow\nswap 2 2\n")
	for i, d := range desks {
		for j, line := range lines {
			f(arguments{Desk: spareDesk(d), Line: line, Script: scripts[(i*7+j)%len(scripts)]})
		}
	}
	f(longArguments())
}

// whole returns a copy of a value in which every slice is as long as its memory: what is behind its length is seen too.
func whole(v reflect.Value) reflect.Value {
	switch v.Kind() {
	case reflect.Slice:
		longer := reflect.MakeSlice(v.Type(), v.Cap(), v.Cap())
		reflect.Copy(longer, v.Slice(0, v.Cap()))
		if v.Type().Elem().Kind() == reflect.Slice {
			for i := range longer.Len() {
				longer.Index(i).Set(whole(longer.Index(i)))
			}
		}
		return longer
	case reflect.Struct:
		s := reflect.New(v.Type()).Elem()
		for i := range v.NumField() {
			s.Field(i).Set(whole(v.Field(i)))
		}
		return s
	}
	return v
}

// block is a piece of memory behind a slice.
type block struct {
	from, to uintptr
}

// blocksOf appends the memory behind all slices in a value, also behind their length.
func blocksOf(blocks []block, v reflect.Value) []block {
	switch v.Kind() {
	case reflect.Slice:
		if v.Cap() > 0 {
			from := v.Pointer()
			blocks = append(blocks, block{from, from + uintptr(v.Cap())*v.Type().Elem().Size()})
		}
		for i := range v.Len() {
			blocks = blocksOf(blocks, v.Index(i))
		}
	case reflect.Struct:
		for i := range v.NumField() {
			blocks = blocksOf(blocks, v.Field(i))
		}
	}
	return blocks
}

// shares reports whether some slice of the results shares memory with an argument or with another slice of them.
func shares(a arguments, results []any) bool {
	given := blocksOf(nil, reflect.ValueOf(a))
	var made []block
	for _, r := range results {
		made = blocksOf(made, reflect.ValueOf(r))
	}
	for i, b := range made {
		for _, c := range append(append([]block(nil), given...), made[:i]...) {
			if b.from < c.to && c.from < b.to {
				return true
			}
		}
	}
	return false
}

// tried returns the results of a call, and what it panics with if it does.
func tried(call func(a arguments) []any, a arguments) (results []any, raised any) {
	defer func() {
		raised = recover()
	}()
	return call(a), nil
}

// checkCall calls a function twice and checks what is promised for every call.
func checkCall(t *testing.T, name string, call func(a arguments) []any, a arguments) {
	before, running := whole(reflect.ValueOf(a)).Interface(), runtime.NumGoroutine()
	results, raised := tried(call, a)
	if raised != nil {
		t.Fatalf("%s panics for %s: %v", name, brief(a), raised)
	}
	if leavesGoroutines(running) {
		t.Fatalf("%s of %s leaves goroutines", name, brief(a))
	}
	if !reflect.DeepEqual(whole(reflect.ValueOf(a)).Interface(), before) {
		t.Fatalf("%s changes its arguments %s", name, brief(before))
	}
	if results[len(results)-1] == false {
		checkFails(t, name, results...)
	}
	again := call(a)
	if !same(results, again) {
		t.Fatalf("%s of %s: %s, and then %s", name, brief(a), brief(results), brief(again))
	}
	if shares(a, append(results, again...)) {
		t.Fatalf("%s of %s: results share memory", name, brief(a))
	}
}

func TestEveryCallIsTotalAndLeavesItsArguments(t *testing.T) {
	eachArguments(func(a arguments) {
		for name, call := range vesselCalls {
			checkCall(t, name, call, a)
		}
	})
	eachPlanArguments(func(a arguments) {
		for name, call := range planCalls {
			checkCall(t, name, call, a)
		}
	})
	eachSiphonArguments(func(a arguments) {
		for name, call := range siphonCalls {
			checkCall(t, name, call, a)
		}
	})
	eachBucketArguments(func(a arguments) {
		for name, call := range bucketCalls {
			checkCall(t, name, call, a)
		}
	})
	eachWeirArguments(func(a arguments) {
		for name, call := range weirCalls {
			checkCall(t, name, call, a)
		}
	})
	eachLevelArguments(func(a arguments) {
		for name, call := range levelCalls {
			checkCall(t, name, call, a)
		}
	})
	eachSaltArguments(func(a arguments) {
		for name, call := range saltCalls {
			checkCall(t, name, call, a)
		}
	})
	eachLockArguments(func(a arguments) {
		for name, call := range lockCalls {
			checkCall(t, name, call, a)
		}
	})
	eachClockArguments(func(a arguments) {
		for name, call := range clockCalls {
			checkCall(t, name, call, a)
		}
	})
	eachConsoleArguments(func(a arguments) {
		for name, call := range consoleCalls {
			checkCall(t, name, call, a)
		}
	})
}

// plainCalls are arguments without spare capacity, and the functions that are called with them.
func plainCalls() map[*arguments]calls {
	return map[*arguments]calls{
		{
			V: vessels{Sizes: []int{3, 5}, Held: []int{0, 5}}, M: fromTo(1, 0),
			Moves: []move{fromTo(1, 0), fromTo(0, drain), fromTo(1, 0)},
			I:     1, J: 0, S: "0/3",
		}: vesselCalls,
		{
			V: vessels{Sizes: []int{3, 5}, Held: []int{0, 5}}, W: vessels{Sizes: []int{3, 5}, Held: []int{3, 2}},
			I: 4, J: 7, K: 5,
		}: planCalls,
		{
			Siphon: siphon{Size: 10, Low: 1, Start: 8, Flow: 4}, Level: level{Held: 2, Running: true}, I: 3,
			Inflows: []int{3, 0, 9, 3, 3, 60}, Chain: []siphon{{Size: 10, Low: 1, Start: 8, Flow: 4}, {Size: 5, Low: 0, Start: 5, Flow: 2}},
		}: siphonCalls,
		{
			Caps: []int{2, 3, 5}, Held: []int{1, 2, 3}, I: 7, J: 4, K: 5, Days: []int{3, 2, 9}, Other: []int{1, 10},
		}: bucketCalls,
		{
			Row: []basin{basinWith(5, 2, 1), basinWith(9, 1, 0)}, Behind: []basin{basinWith(3, 0, 3)}, Flows: []int{4, 4, 0, 0}, I: 3, J: 1,
		}: weirCalls,
		{
			Tanks: six(), A: wide, B: high, P: part(7, 2), Q: part(1, 3), Joins: [][]int{{3, 1}, {5, 0}, {4, 3}}, I: 3, J: 4,
		}: levelCalls,
		{
			Brine: brineOf("3/4,1/3", part(1, 1), part(1, 2)), M: fromTo(0, 1), Moves: []move{fromTo(0, 1), fromTo(tap, 0), fromTo(1, 0)},
			I: 0, J: 1, K: 2, P: part(1, 2), Q: part(1, 5), Goal: part(1, 4),
		}: saltCalls,
		{
			Flight: flightOf("#.#", 3, 2, 4), Ships: "uddu", I: 1, J: 2, Up: true,
		}: lockCalls,
		{
			Flight: flightOf(".#.", 3, 2, 4), Ships: "duu", I: 1, J: 3,
		}: lockCalls,
		{
			C: bowl, D: clockWith(20, 2), Wheel: mill, Scale: balance, I: 30, J: 3, K: 2,
		}: clockCalls,
		{
			Desk: deskOf("0/3,5/5", 7), Line: "show", Script: "move 1>0\nfly\nmove t>1\n",
		}: consoleCalls,
		{
			Desk: deskOf("0/3,5/5", 7), Line: "move t>0", Script: "fly\n",
		}: consoleCalls,
		{
			Desk: deskOf("0/3,5/5", 7), Line: "swap 1 2", Script: "swap 0 1\n",
		}: consoleCalls,
		{
			Desk: deskOf("0/3,5/5", 7), Line: "vessels 1/2", Script: "vessels 1/2\n",
		}: consoleCalls,
	}
}

// spared returns the same arguments with marks in the spare capacity behind their lists.
func spared(a arguments) arguments {
	a.V, a.W, a.Moves = spareVessels(a.V), spareVessels(a.W), spareMoves(a.Moves)
	a.Inflows, a.Chain = spare(a.Inflows, mark), spareChain(a.Chain)
	a.Caps, a.Held, a.Days, a.Other = spare(a.Caps, mark), spare(a.Held, mark), spare(a.Days, mark), spare(a.Other, mark)
	a.Row, a.Behind, a.Flows = spareRow(a.Row), spareRow(a.Behind), spare(a.Flows, mark)
	a.Tanks, a.Joins = spareTanks(a.Tanks), spareJoins(a.Joins)
	a.Brine, a.Flight, a.Desk = spareBrine(a.Brine), spareFlight(a.Flight), spareDesk(a.Desk)
	return a
}

func TestSpareCapacityIsNotRead(t *testing.T) {
	for plain, list := range plainCalls() {
		marked := spared(*plain)
		for name, call := range list {
			if a, b := call(*plain), call(marked); !same(a, b) {
				t.Errorf("%s: %v without spare capacity, %v with some", name, a, b)
			}
		}
	}
}

func TestResultsStayWhenArgumentsChange(t *testing.T) {
	for plain, list := range plainCalls() {
		a := spared(*plain)
		results := map[string]string{}
		kept := map[string][]any{}
		for name, call := range list {
			kept[name] = call(a)
			results[name] = fmt.Sprint(kept[name]...)
		}
		for _, numbers := range append(slices.Clone(a.Joins), a.V.Sizes, a.V.Held, a.W.Sizes, a.W.Held, a.Inflows, a.Caps, a.Held, a.Days, a.Other, a.Flows, a.Brine.Vessels.Sizes, a.Brine.Vessels.Held, a.Flight.Lifts, a.Desk.Vessels.Sizes, a.Desk.Vessels.Held) {
			for i := range numbers {
				numbers[i] = mark
			}
		}
		for i := range a.Moves {
			a.Moves[i] = fromTo(mark, mark)
		}
		for i := range a.Chain {
			a.Chain[i] = siphon{Size: mark, Low: mark, Start: mark, Flow: mark}
		}
		for _, row := range [][]basin{a.Row, a.Behind} {
			for i := range row {
				row[i] = basinWith(mark, mark, mark)
			}
		}
		for i := range a.Tanks {
			a.Tanks[i] = tankWith(mark, mark, mark)
		}
		for i := range a.Joins {
			a.Joins[i] = []int{mark}
		}
		for i := range a.Brine.Salt {
			a.Brine.Salt[i] = part(mark, mark)
		}
		for i := range a.Flight.Full {
			a.Flight.Full[i] = !a.Flight.Full[i]
		}
		for name, want := range results {
			if got := fmt.Sprint(kept[name]...); got != want {
				t.Errorf("%s: %s has become %s", name, want, got)
			}
		}
	}
}
