package tests

import (
	"fmt"
	"math"
	"math/big"
	"slices"
	"testing"

	"loop.example/g00742/impl"
)

func TestPromise7Numbers(t *testing.T) {
	if impl.MaxPoints != mostPoints || impl.Square != square {
		t.Error("MaxPoints, Square")
	}
}

func TestPromise7PointsFaults(t *testing.T) {
	check := func(list []impl.Point, want int64) {
		t.Helper()
		if got := impl.PointsFault(list); got != want {
			t.Errorf("PointsFault of %v: got %d, want %d", list, got, want)
		}
	}
	check(nil, impl.ErrMany)
	check([]impl.Point{}, impl.ErrMany)
	d := dice(101)
	for n := 1; n <= mostPoints; n++ {
		check(d.places(n), impl.OK)
		check(alike(n, pointAt(7, poleLat)), impl.OK)
		for i := range n {
			list := d.places(n)
			list[i] = faultyPoints()[d.below(len(faultyPoints()))]
			check(list, impl.ErrRange)
		}
	}
	for _, a := range append(edgePoints(), somePoints()...) {
		check([]impl.Point{a}, impl.OK)
	}
	for _, a := range faultyPoints() {
		check([]impl.Point{a}, impl.ErrRange)
		check(alike(mostPoints+1, a), impl.ErrMany)
	}
	check(d.places(mostPoints+1), impl.ErrMany)
	check(d.places(100), impl.ErrMany)
}

// sidePairs are sides from and to Lats of all kinds, with steps of all kinds, some of which go over an end of the Lons.
func sidePairs() []pointPair {
	lats := []int64{1 - poleLat, 2 - poleLat, -60 * degree, -1, 0, 45 * degree, poleLat - 3, poleLat - 1}
	turns := []int64{0, 1, -1, 20 * degree, -90 * degree, 150 * degree, -178 * degree, farStep - 1, 1 - farStep}
	var list []pointPair
	for _, from := range lats {
		for _, to := range lats {
			for i, step := range turns {
				lon := []int64{-step / 2, 0, halfLon - step, 1 - halfLon - step}[i%4]
				if max(lon, -lon) > halfLon {
					lon = 0
				}
				list = append(list, pointPair{pointAt(lon, from), pointAt(lon+step, to)})
			}
		}
	}
	d := dice(102)
	for range 60 {
		list = append(list, pointPair{d.point(), d.point()})
	}
	return list
}

// checkTurn compares a turn with the steps, to the unit, and with the true one, and that of the other way with what is as far below 0.
func checkTurn(t *testing.T, p int64, a impl.Point, b impl.Point, truth *big.Int) {
	t.Helper()
	for range 2 {
		what := fmt.Sprintf("TurnOf with %d of %v and %v", p, a, b)
		got := impl.TurnOf(p, a, b)
		want, code := steps(p).turnOfSide(a, b)
		if code != impl.OK {
			checkSpanCode(t, what, got, code)
		} else {
			checkSpan(t, what, got, want.low, want.high)
			checkHolds(t, what, p, got, truth)
		}
		a, b, truth = b, a, negative(truth)
	}
}

func TestPromise7Turns(t *testing.T) {
	truth := func(pair pointPair) *big.Int { return trueTurn(pair[0], pair[1]) }
	withTruths(t, sidePairs(), truth, func(t *testing.T, p int64, pair pointPair, truth *big.Int) {
		checkTurn(t, p, pair[0], pair[1], truth)
	})
}

// Away from the poles a turn is told narrowly, also where it is told by what is left of a quarter.
func TestPromise7NarrowTurns(t *testing.T) {
	for _, p := range precisions {
		for _, lat := range []int64{-80 * degree, -30 * degree, 0, 1, 60 * degree} {
			for _, step := range []int64{0, 1, 30 * degree, -120 * degree, 150 * degree} {
				checkNarrow(t, fmt.Sprintf("TurnOf with %d at %d, by %d", p, lat, step), impl.TurnOf(p, pointAt(0, lat), pointAt(step, lat+degree)), 25000)
			}
		}
	}
}

// stepCase is a side between two Lons, and whether it is told.
type stepCase struct {
	from, to int64
	told     bool
	step     int64
}

func stepCases() []stepCase {
	return []stepCase{
		{0, farStep - 1, true, farStep - 1}, {0, farStep, false, 0}, {0, farStep + 1, false, 0},
		{0, 1 - farStep, true, 1 - farStep}, {0, -farStep, false, 0}, {0, -farStep - 1, false, 0},
		{-90 * degree, 90*degree - 1, false, 0}, {-90 * degree, 90 * degree, false, 0}, {-90 * degree, 90*degree + 1, false, 0},
		{90 * degree, 1 - 90*degree, false, 0}, {90 * degree, -90 * degree, false, 0}, {90 * degree, -90*degree - 1, false, 0},
		{0, halfLon, false, 0}, {0, -halfLon, false, 0}, {halfLon, 0, false, 0}, {-halfLon, 0, false, 0}, {1, -halfLon, false, 0}, {-1, halfLon, false, 0}, {-1, -halfLon, false, 0}, {1, halfLon, false, 0},
		{90 * degree, -89 * degree, false, 0}, {90 * degree, 1 - 89*degree, true, 1 - farStep}, {-90 * degree, 89 * degree, false, 0}, {-90 * degree, 89*degree - 1, true, farStep - 1},
		{90 * degree, -91 * degree, false, 0}, {90 * degree, -91*degree - 1, true, farStep - 1}, {-90 * degree, 91 * degree, false, 0}, {-90 * degree, 91*degree + 1, true, 1 - farStep},
		{halfLon, -degree, false, 0}, {halfLon, 1 - degree, false, 0}, {halfLon, -degree - 1, true, farStep - 1}, {halfLon, degree, false, 0}, {halfLon, degree + 1, true, 1 - farStep}, {halfLon, degree - 1, false, 0},
		{-halfLon, degree, false, 0}, {-halfLon, degree - 1, false, 0}, {-halfLon, degree + 1, true, 1 - farStep}, {-halfLon, -degree, false, 0}, {-halfLon, -degree - 1, true, farStep - 1}, {-halfLon, 1 - degree, false, 0},
		{halfLon, -halfLon, true, 0}, {-halfLon, halfLon, true, 0}, {halfLon, halfLon, true, 0}, {halfLon, 1 - halfLon, true, 1}, {halfLon - 1, -halfLon, true, 1}, {-halfLon, halfLon - 1, true, -1}, {1 - halfLon, halfLon, true, -1},
		{170 * degree, -170 * degree, true, 20 * degree}, {-170 * degree, 170 * degree, true, -20 * degree}, {100 * degree, -90 * degree, true, 170 * degree}, {-100 * degree, 90 * degree, true, -170 * degree},
	}
}

// A turn hangs on the step and both Lats alone, wherever the side lies.
func TestPromise7StepBounds(t *testing.T) {
	for _, c := range stepCases() {
		for _, lats := range [][2]int64{{0, 0}, {5 * degree, -70 * degree}, {poleLat - 40, poleLat - 50}} {
			for _, p := range precisions {
				what := fmt.Sprintf("TurnOf with %d from %d to %d", p, c.from, c.to)
				got := impl.TurnOf(p, pointAt(c.from, lats[0]), pointAt(c.to, lats[1]))
				if !c.told {
					checkSpanCode(t, what, got, impl.ErrForm)
					continue
				}
				want := impl.TurnOf(p, pointAt(0, lats[0]), pointAt(c.step, lats[1]))
				low, high := endsOf(want.Span)
				checkSpan(t, what, got, low, high)
			}
		}
	}
}

func TestPromise7TurnsAtPoles(t *testing.T) {
	for _, p := range precisions {
		for _, pole := range []impl.Point{pointAt(0, poleLat), pointAt(0, -poleLat), pointAt(7, poleLat), pointAt(-halfLon, -poleLat)} {
			for _, other := range []impl.Point{pole, pointAt(0, 0), pointAt(0, poleLat-1), pointAt(degree, 1-poleLat), pointAt(0, -pole.Lat), pointAt(halfLon, 5)} {
				checkSpanCode(t, "TurnOf from a pole", impl.TurnOf(p, pole, other), impl.ErrForm)
				checkSpanCode(t, "TurnOf to a pole", impl.TurnOf(p, other, pole), impl.ErrForm)
				ring := []impl.Point{pointAt(0, 0), pole, other, pointAt(0, 0)}
				if got := impl.AreaOf(p, ring); got != (impl.RangeResult{Code: impl.ErrForm}) {
					t.Errorf("AreaOf with %d of %v: got %v", p, ring, got)
				}
			}
		}
	}
}

// A side along the equator, along a meridian, or from a point to itself does not turn at all.
func TestPromise7StraightSides(t *testing.T) {
	zero := new(big.Int)
	for _, p := range precisions {
		for _, lon := range []int64{0, 1, -1, 50 * degree, -178 * degree, farStep - 1, 1 - farStep} {
			checkSpan(t, "along the equator", impl.TurnOf(p, pointAt(0, 0), pointAt(lon, 0)), zero, zero)
		}
		checkSpan(t, "along the equator", impl.TurnOf(p, pointAt(-170*degree, 0), pointAt(120*degree, 0)), zero, zero)
		for _, from := range []int64{1 - poleLat, -degree, 0, 7, poleLat - 1} {
			for _, to := range []int64{1 - poleLat, 0, 30 * degree, poleLat - 1} {
				checkSpan(t, "along a meridian", impl.TurnOf(p, pointAt(5, from), pointAt(5, to)), zero, zero)
				checkSpan(t, "along both ends of the Lons", impl.TurnOf(p, pointAt(halfLon, from), pointAt(-halfLon, to)), zero, zero)
			}
		}
	}
}

// twiceCase is a side just one of whose ends of n is as far from 0 as told, beside twice the Low of m.
type twiceCase struct {
	p        int64
	from, to impl.Point
	over     int64
	code     int64
}

// twiceCases were found by halving. Of each two that stand together the Lons are a billionth of a degree apart, and there is no side between them.
func twiceCases() []twiceCase {
	side := func(p int64, north int64, a int64, b int64, lon int64, over int64, code int64) twiceCase {
		return twiceCase{p, pointAt(0, north*(poleLat-a)), pointAt(lon, north*(b-poleLat)), over, code}
	}
	return []twiceCase{
		side(48, 1, 1, 2, 157980019516, 0, 0), side(48, 1, 1, 2, 157980019517, 1, 0),
		side(48, 1, 1, 2, -157980019516, 0, 0), side(48, 1, 1, 2, -157980019517, 1, 0),
		side(48, 1, 1, 3, 149364380547, 0, 0), side(48, 1, 1, 3, 149364380548, 1, 0),
		side(48, -1, 1, 2, 156755552898, 0, 0), side(48, -1, 1, 2, 156755552899, 1, 0),
		side(48, -1, 1, 2, -156755552897, 0, 0), side(48, -1, 1, 2, -156755552898, 1, 0),
		// n goes over 0.
		side(48, 1, 1, 1, 174616965539, 0, 0), side(48, 1, 1, 1, 174616965540, 1, impl.ErrZero),
		side(48, 1, 1, 1, -174616965539, 0, 0), side(48, 1, 1, 1, -174616965540, 1, impl.ErrZero),
		side(48, -1, 1, 1, 174616965539, 0, 0), side(48, -1, 1, 1, -174616965540, 1, impl.ErrZero),
		side(72, 1, 1, 18, 131795530950, 0, 0), side(72, 1, 1, 18, 131795530951, 74, 0),
		side(72, 1, 2, 7, -148951777917, 0, 0), side(72, 1, 2, 7, -148951777918, 50, 0),
		side(72, -1, 2, 14, 138887909490, 0, 0), side(72, -1, 2, 14, 138887909491, 70, 0),
		side(72, -1, 2, 17, -136918048103, 0, 0), side(72, -1, 2, 17, -136918048104, 81, 0),
		// At Lats that are not so near to the poles a billionth of a degree is many units.
		{48, pointAt(0, -60*degree), pointAt(-133173551107, -60*degree), -245, 0}, {48, pointAt(0, -60*degree), pointAt(-133173551108, -60*degree), 17718, 0},
		{48, pointAt(0, 89*degree), pointAt(161073468599, -88*degree), -1132, 0}, {48, pointAt(0, 89*degree), pointAt(161073468600, -88*degree), 411, 0},
		{72, pointAt(0, 60*degree), pointAt(133173551107, 60*degree), -78033521094, 0}, {72, pointAt(0, 60*degree), pointAt(133173551108, 60*degree), 223342555138, 0},
		{96, pointAt(0, 60*degree), pointAt(133173551107, 60*degree), -1309185315439868792, 0}, {96, pointAt(0, 60*degree), pointAt(133173551108, 60*degree), 3747066212680634797, 0},
		{96, pointAt(0, -89*degree), pointAt(161073468602, 88*degree), -431410075668329252, 0}, {96, pointAt(0, -89*degree), pointAt(161073468603, 88*degree), 3609280687735883, 0},
		{96, pointAt(0, -60*degree), pointAt(-133173551107, -60*degree), -1309185315439867031, 0}, {96, pointAt(0, -60*degree), pointAt(-133173551108, -60*degree), 3747066212680636553, 0},
	}
}

func TestPromise7Twice(t *testing.T) {
	for _, c := range twiceCases() {
		what := fmt.Sprintf("TurnOf with %d of %v and %v", c.p, c.from, c.to)
		if over := overTwice(steps(c.p).sideParts(c.from, c.to)); over != c.over {
			t.Errorf("%s: an end of n is %d farther than twice the Low of m, want %d", what, over, c.over)
		}
		if got := impl.TurnOf(c.p, c.from, c.to); got.Code != c.code {
			t.Errorf("%s: got %v", what, got)
		}
		checkTurn(t, c.p, c.from, c.to, trueTurn(c.from, c.to))
	}
}

// From just behind a pole to just ahead of the other one a side may turn either way, and the lowest precision cannot tell which.
func TestPromise7NotTold(t *testing.T) {
	for _, c := range []struct {
		away, lon int64
		told      bool
	}{{1, 170 * degree, true}, {1, 176 * degree, false}, {1, -176 * degree, false}, {1, farStep - 1, false}, {2, 177 * degree, true}, {2, 178 * degree, false}, {5, farStep - 1, false}, {6, farStep - 1, true}, {6, 1 - farStep, true}} {
		for _, p := range precisions {
			for _, north := range []int64{1, -1} {
				a, b := pointAt(0, north*(poleLat-c.away)), pointAt(c.lon, -north*(poleLat-c.away))
				// The form is asked first.
				for _, step := range []int64{farStep, -farStep, halfLon - 1} {
					checkSpanCode(t, "TurnOf with too far a step", impl.TurnOf(p, a, pointAt(step, b.Lat)), impl.ErrForm)
				}
				got := impl.TurnOf(p, a, b)
				what := fmt.Sprintf("TurnOf with %d of %v and %v", p, a, b)
				if !c.told && p == 48 {
					checkSpanCode(t, what, got, impl.ErrZero)
					continue
				}
				checkHolds(t, what, p, got, new(big.Int))
				checkTurn(t, p, a, b, new(big.Int))
			}
		}
	}
}

// lists are ways of each number of points: ordinary ones, one with a point twice in turn, and those back and forth.
func lists() [][]impl.Point {
	d := dice(103)
	var all [][]impl.Point
	for n := 1; n <= mostPoints; n++ {
		all = append(all, d.places(n))
	}
	a, b, c := d.point(), d.point(), d.point()
	return append(all,
		[]impl.Point{a, a}, []impl.Point{a, a, b}, []impl.Point{a, b, a}, []impl.Point{a, b, c, b, a}, alike(mostPoints, a),
		[]impl.Point{pointAt(halfLon, 5), pointAt(-halfLon, 5)}, []impl.Point{pointAt(0, poleLat), pointAt(degree, poleLat), pointAt(degree, 0)},
		[]impl.Point{pointAt(0, 0), pointAt(degree, 0), pointAt(2*degree, 0)}, []impl.Point{pointAt(0, 0), pointAt(0, degree), pointAt(0, 0)}, []impl.Point{a, opposite(a), a, opposite(a)},
	)
}

func TestPromise7Lengths(t *testing.T) {
	withTruths(t, lists(), trueLength, func(t *testing.T, p int64, list []impl.Point, truth *big.Int) {
		what := fmt.Sprintf("LengthOf with %d of %v", p, list)
		got := impl.LengthOf(p, list)
		if want := steps(p).length(list); got.Code != impl.OK || got.Range != want {
			t.Errorf("%s: got %v, want %v", what, got, want)
		}
		checkFar(t, what, got, truth)
		checkParts(t, p, list)
	})
}

// checkParts checks that a way is as long as what is ahead of each of its points and what is behind it, and as all its sides, and as long the other way.
func checkParts(t *testing.T, p int64, list []impl.Point) {
	t.Helper()
	whole := impl.LengthOf(p, list).Range
	for i := range list {
		ahead, behind := impl.LengthOf(p, list[:i+1]), impl.LengthOf(p, list[i:])
		if ahead.Range.Low+behind.Range.Low != whole.Low || ahead.Range.High+behind.Range.High != whole.High {
			t.Errorf("LengthOf with %d of %v: %v and %v about %d, and %v in all", p, list, ahead, behind, i, whole)
		}
	}
	var sum impl.Range
	for i := range len(list) - 1 {
		side := impl.DistanceOf(p, list[i], list[i+1]).Range
		sum.Low += side.Low
		sum.High += side.High
	}
	if back := impl.LengthOf(p, turnedRound(list)); sum != whole || back.Range != whole {
		t.Errorf("LengthOf with %d of %v: got %v, and %v the other way, and its sides are %v", p, list, whole, back, sum)
	}
}

func TestPromise7WaysOfOnePoint(t *testing.T) {
	for _, p := range precisions {
		for _, a := range somePoints() {
			if got := impl.LengthOf(p, []impl.Point{a}); got != (impl.RangeResult{}) {
				t.Errorf("LengthOf with %d of %v alone: got %v", p, a, got)
			}
		}
	}
}

// setPair is two sets that are asked of together.
type setPair [2][]impl.Point

// setPairs are sets of all sizes, and the edges that are named.
func setPairs() []setPair {
	d := dice(104)
	var list []setPair
	for n := 1; n <= mostPoints; n += 3 {
		list = append(list, setPair{d.places(n), d.places(13 - n)}, setPair{d.places(n), d.places(1)}, setPair{d.places(1), d.places(n)})
	}
	a, b := d.places(4), d.places(5)
	common := append(slices.Clone(b), a[2])
	north, south := []impl.Point{pointAt(3, poleLat)}, []impl.Point{pointAt(-5*degree, 0), pointAt(9, poleLat)}
	return append(list, setPair{a, common}, setPair{a, a}, setPair{north, south}, setPair{north, north},
		setPair{[]impl.Point{pointAt(halfLon, 5)}, []impl.Point{pointAt(0, 5), pointAt(-halfLon, 5)}},
		setPair{[]impl.Point{a[0]}, []impl.Point{opposite(a[0])}}, setPair{alike(3, a[0]), alike(2, b[0])},
		setPair{alike(mostPoints, pointAt(5, 0)), []impl.Point{pointAt(4, 0)}}, degreesApart(), setPair{degreesApart()[1], degreesApart()[0]})
}

func TestPromise7Sets(t *testing.T) {
	truth := func(pair setPair) *big.Int { return trueGap(pair[0], pair[1]) }
	withTruths(t, setPairs(), truth, func(t *testing.T, p int64, pair setPair, truth *big.Int) {
		what := fmt.Sprintf("SetDistance with %d of %v and %v", p, pair[0], pair[1])
		got, back := impl.SetDistance(p, pair[0], pair[1]), impl.SetDistance(p, pair[1], pair[0])
		if want := steps(p).setDistance(pair[0], pair[1]); got.Code != impl.OK || got.Range != want || back != got {
			t.Errorf("%s: got %v, and %v the other way, want %v", what, got, back, want)
		}
		checkFar(t, what, got, truth)
		checkNearest(t, p, pair)
	})
}

// checkNearest checks that a set is as near as its nearest point, and that no pair has a Low or a High that is less.
func checkNearest(t *testing.T, p int64, pair setPair) {
	t.Helper()
	whole := impl.SetDistance(p, pair[0], pair[1]).Range
	low, high := int64(math.MaxInt64), int64(math.MaxInt64)
	for _, a := range pair[0] {
		part := impl.SetDistance(p, []impl.Point{a}, pair[1]).Range
		low, high = min(low, part.Low), min(high, part.High)
		for _, b := range pair[1] {
			far := impl.DistanceOf(p, a, b).Range
			if whole.Low > far.Low || whole.High > far.High || len(pair[0]) == 1 && len(pair[1]) == 1 && whole != far {
				t.Errorf("SetDistance with %d of %v: got %v, and %v of %v and %v", p, pair, whole, far, a, b)
			}
			if impl.IsSamePlace(a, b) && whole != (impl.Range{}) {
				t.Errorf("SetDistance with %d of %v, which have a place in common: got %v", p, pair, whole)
			}
		}
	}
	if whole.Low != low || whole.High != high {
		t.Errorf("SetDistance with %d of %v: got %v, and point by point %d and %d", p, pair, whole, low, high)
	}
}

// degreesApart are two points, and those that are a degree from them: with the lowest precision the one way is told less narrowly than the other one.
func degreesApart() setPair {
	return setPair{{pointAt(0, 0), pointAt(100*degree, 50*degree)}, {pointAt(degree, 0), pointAt(100*degree, 51*degree)}}
}

// The least Low and the least High need not be those of one pair.
func TestPromise7LowAndHighOfTwoPairs(t *testing.T) {
	sets := degreesApart()
	narrow, wide := impl.DistanceOf(48, sets[0][0], sets[1][0]).Range, impl.DistanceOf(48, sets[0][1], sets[1][1]).Range
	if wide.Low >= narrow.Low || wide.High <= narrow.High {
		t.Fatalf("%v is not within %v", narrow, wide)
	}
	if got := impl.SetDistance(48, sets[0], sets[1]); got.Code != impl.OK || got.Range != (impl.Range{Low: wide.Low, High: narrow.High}) {
		t.Errorf("of %v and %v: got %v", narrow, wide, got)
	}
}

// rings are rings of each number of points, and the edges that are named.
func rings() [][]impl.Point {
	d := dice(105)
	var all [][]impl.Point
	for n := 4; n <= mostPoints; n++ {
		all = append(all, d.ring(n))
	}
	a, b := pointAt(20*degree, 40*degree), pointAt(90*degree, -10*degree)
	box := func(west, east, south, north int64) []impl.Point {
		return []impl.Point{pointAt(west, south), pointAt(west, north), pointAt(east, north), pointAt(east, south), pointAt(west, south)}
	}
	cap := []impl.Point{pointAt(0, 85*degree), pointAt(120*degree, 85*degree), pointAt(-120*degree, 85*degree), pointAt(0, 85*degree)}
	return append(all, box(0, 90*degree, 0, degree), box(-1, 1, -1, 1), box(7, 8, 50*degree, 50*degree+1), box(-89*degree, 89*degree, 1-poleLat, poleLat-1), box(170*degree, -170*degree, -10*degree, 20*degree),
		[]impl.Point{a, b, b, a}, []impl.Point{a, b, a, a}, []impl.Point{a, b, a, b, a}, cap, shifted(cap, 50*degree),
		[]impl.Point{pointAt(0, 0), pointAt(120*degree, 0), pointAt(-120*degree, 0), pointAt(0, 0)}, []impl.Point{pointAt(0, 0), pointAt(50*degree, 0), pointAt(70*degree, 0), pointAt(0, 0)},
		[]impl.Point{pointAt(0, 7), pointAt(0, poleLat-1), pointAt(0, 1-poleLat), pointAt(0, 7)}, []impl.Point{pointAt(0, 50*degree), pointAt(150*degree, 60*degree), pointAt(151*degree, 0), pointAt(0, 50*degree)})
}

// checkArea compares an area with the steps, and with the true one, which is told as an angle.
func checkArea(t *testing.T, p int64, ring []impl.Point, truth *big.Int) impl.Range {
	t.Helper()
	got := impl.AreaOf(p, ring)
	if want := steps(p).area(ring); got != want {
		t.Errorf("AreaOf with %d of %v: got %v, want %v", p, ring, got, want)
	}
	area, room := product(truth, big.NewInt(square)), product(slack, big.NewInt(square))
	low, high := new(big.Int).Lsh(big.NewInt(got.Range.Low), fine), new(big.Int).Lsh(big.NewInt(got.Range.High), fine)
	if got.Code != impl.OK || low.Sub(low, room).Cmp(area) > 0 || high.Add(high, room).Cmp(area) < 0 {
		t.Errorf("AreaOf with %d of %v: %v has not %v in it", p, ring, got, new(big.Int).Rsh(area, fine))
	}
	return got.Range
}

func TestPromise7Areas(t *testing.T) {
	withTruths(t, rings(), trueArea, func(t *testing.T, p int64, ring []impl.Point, truth *big.Int) {
		got := checkArea(t, p, ring, truth)
		back := checkArea(t, p, turnedRound(ring), negative(truth))
		checkOtherWay(t, p, ring, got, back)
		checkSameRing(t, p, ring, got)
	})
}

// checkOtherWay checks that a ring that is gone round the other way has the area below 0: what is told of both fits to one number, and where the one is above 0, the other one is below.
func checkOtherWay(t *testing.T, p int64, ring []impl.Point, got impl.Range, back impl.Range) {
	t.Helper()
	if got.Low > -back.Low || got.High < -back.High {
		t.Errorf("AreaOf with %d of %v: got %v, and %v the other way", p, ring, got, back)
	}
	most := (got.High - got.Low) + (back.High - back.Low)
	if got.Low > most && back.High >= 0 || got.High < -most && back.Low <= 0 {
		t.Errorf("AreaOf with %d of %v: got %v, and %v the other way", p, ring, got, back)
	}
}

// checkSameRing checks that an area hangs neither on where the ring begins nor on where it lies around the globe.
func checkSameRing(t *testing.T, p int64, ring []impl.Point, want impl.Range) {
	t.Helper()
	later := append(slices.Clone(ring[2:]), ring[1], ring[2])
	for _, other := range [][]impl.Point{later, shifted(ring, 0), shifted(ring, degree), shifted(ring, 190*degree)} {
		if got := impl.AreaOf(p, other); got.Code != impl.OK || got.Range != want {
			t.Errorf("AreaOf with %d of %v, which is %v: got %v, want %v", p, ring, other, got, want)
		}
	}
}

// A ring of nothing, and one whose sides do not turn, has no area at all; one that goes back the way that it came has none but for what is rounded.
func TestPromise7Nothing(t *testing.T) {
	for _, p := range precisions {
		for n := 4; n <= mostPoints; n++ {
			for _, a := range []impl.Point{pointAt(0, 0), pointAt(5, 7), pointAt(-halfLon, 60*degree), pointAt(degree, 1-poleLat)} {
				if got := impl.AreaOf(p, alike(n, a)); got != (impl.RangeResult{}) {
					t.Errorf("AreaOf with %d of %v, %d times: got %v", p, a, n, got)
				}
			}
		}
		equator := []impl.Point{pointAt(0, 0), pointAt(100*degree, 0), pointAt(-100*degree, 0), pointAt(0, 0)}
		meridian := []impl.Point{pointAt(9, 0), pointAt(9, 80*degree), pointAt(9, -80*degree), pointAt(9, 0)}
		for _, ring := range [][]impl.Point{equator, meridian} {
			if got := impl.AreaOf(p, ring); got != (impl.RangeResult{}) {
				t.Errorf("AreaOf with %d of %v: got %v", p, ring, got)
			}
		}
		a, b, c := pointAt(3*degree, 40*degree), pointAt(80*degree, 60*degree), pointAt(20*degree, -30*degree)
		for _, ring := range [][]impl.Point{{a, b, a, a}, {a, b, b, a}, {a, b, c, b, a}, {a, b, a, c, a}} {
			got := impl.AreaOf(p, ring)
			if got.Code != impl.OK || got.Range.Low > 0 || got.Range.High < 0 || got.Range.High-got.Range.Low > 10000 {
				t.Errorf("AreaOf with %d of %v: got %v", p, ring, got)
			}
		}
	}
}

func TestPromise7RingForms(t *testing.T) {
	d := dice(106)
	a, b, c := pointAt(0, 0), pointAt(degree, 0), pointAt(degree, degree)
	seam, other := pointAt(halfLon, 5), pointAt(-halfLon, 5)
	cases := []struct {
		ring []impl.Point
		code int64
	}{
		{nil, impl.ErrMany}, {[]impl.Point{}, impl.ErrMany},
		{[]impl.Point{a}, impl.ErrForm}, {[]impl.Point{a, a}, impl.ErrForm}, {[]impl.Point{a, b}, impl.ErrForm}, {[]impl.Point{a, b, a}, impl.ErrForm}, {[]impl.Point{a, a, a}, impl.ErrForm}, {[]impl.Point{a, b, c}, impl.ErrForm},
		{[]impl.Point{a, b, c, a}, impl.OK}, {[]impl.Point{a, a, a, a}, impl.OK}, {d.ring(mostPoints), impl.OK}, {d.ring(mostPoints + 1), impl.ErrMany}, {alike(mostPoints+1, a), impl.ErrMany},
		{[]impl.Point{a, b, c, b}, impl.ErrForm}, {[]impl.Point{a, b, c, pointAt(1, 0)}, impl.ErrForm}, {[]impl.Point{a, b, c, pointAt(0, -1)}, impl.ErrForm}, {[]impl.Point{a, b, a, b}, impl.ErrForm}, {append(alike(mostPoints-1, a), b), impl.ErrForm},
		// The same place, but not the same numbers.
		{[]impl.Point{seam, pointAt(halfLon-1, 5), pointAt(halfLon-1, 6), other}, impl.ErrForm}, {[]impl.Point{other, seam, seam, seam}, impl.ErrForm}, {[]impl.Point{seam, other, other, seam}, impl.OK},
		{[]impl.Point{pointAt(0, poleLat), a, b, pointAt(1, poleLat)}, impl.ErrForm}, {[]impl.Point{pointAt(0, poleLat), a, b, pointAt(0, poleLat)}, impl.ErrForm},
		{[]impl.Point{a, pointAt(farStep, 0), c, a}, impl.ErrForm}, {[]impl.Point{a, c, pointAt(halfLon, 1), a}, impl.ErrForm}, {[]impl.Point{a, c, pointAt(farStep-1, 1), a}, impl.OK},
	}
	for _, each := range cases {
		for _, p := range precisions {
			got := impl.AreaOf(p, each.ring)
			if got.Code != each.code || each.code != impl.OK && got.Range != (impl.Range{}) {
				t.Errorf("AreaOf with %d of %v: got %v, want %d", p, each.ring, got, each.code)
			}
		}
	}
}

// Of a ring's sides the first one with a code is told.
func TestPromise7FirstSide(t *testing.T) {
	a := pointAt(0, 0)
	high, low := pointAt(0, poleLat-1), pointAt(176*degree, 1-poleLat)
	cases := []struct {
		ring []impl.Point
		code int64
	}{
		{[]impl.Point{high, low, a, high}, impl.ErrZero}, {[]impl.Point{a, high, low, a}, impl.ErrZero}, {[]impl.Point{low, a, high, low}, impl.ErrZero},
		{[]impl.Point{high, low, pointAt(0, poleLat), high}, impl.ErrZero}, {[]impl.Point{a, pointAt(0, poleLat), high, low, a}, impl.ErrForm},
		{[]impl.Point{high, low, pointAt(-5*degree, 0), high}, impl.ErrZero}, {[]impl.Point{a, pointAt(halfLon, 0), low, high, a}, impl.ErrForm},
		{[]impl.Point{high, low, a, a}, impl.ErrForm}, {[]impl.Point{high, low, high}, impl.ErrForm},
	}
	for _, c := range cases {
		if got := impl.AreaOf(48, c.ring); got != (impl.RangeResult{Code: c.code}) {
			t.Errorf("AreaOf of %v: got %v, want %d", c.ring, got, c.code)
		}
	}
}

func TestPromise7IsInRange(t *testing.T) {
	ends := []int64{math.MinInt64, -2, -1, 0, 1, 2, math.MaxInt64}
	var list []impl.Range
	for _, low := range ends {
		for _, high := range ends {
			list = append(list, impl.Range{Low: low, High: high})
		}
	}
	for _, a := range list {
		for _, b := range list {
			if got, want := impl.IsInRange(a, b), !(a.Low < b.Low) && !(a.High > b.High); got != want {
				t.Errorf("IsInRange of %v and %v: got %v", a, b, got)
			}
		}
		if !impl.IsInRange(a, a) {
			t.Errorf("IsInRange of %v and itself", a)
		}
	}
}

// These ends were reckoned once by hand-written steps in another language.
func TestPromise7Known(t *testing.T) {
	turn := func(p int64, aLon, aLat, bLon, bLat int64) impl.SpanResult {
		return impl.TurnOf(p, pointAt(aLon*degree, aLat*degree), pointAt(bLon*degree, bLat*degree))
	}
	checkKnown(t, []knownEnds{
		{"a quarter", turn(48, 0, 30, 90, 30), "261010399890256", "261010399891392"},
		{"a quarter", turn(96, 0, 30, 90, 30), "73467896230531911251287884176", "73467896230531911251287886080"},
		{"far in the south", turn(48, 10, -50, 160, -70), "-717779583855756", "-717779583851888"},
		{"far in the south", turn(72, 10, -50, 160, -70), "-12042343118707516033344", "-12042343118707516028060"},
		{"far in the north", turn(72, 10, 60, 170, 70), "13027639045167447238908", "13027639045167447245872"},
		{"far to the west", turn(96, 10, 60, -150, 70), "-218567514230808018558352289772", "-218567514230808018558352280960"},
		{"over the end of the Lons", turn(48, 170, 5, -170, 5), "8650682663488", "8650682663792"},
		{"either way", impl.TurnOf(48, pointAt(0, poleLat-1), pointAt(174616965539, 1-poleLat)), "-623269319112784", "510198067396096"},
		{"just twice", impl.TurnOf(48, pointAt(0, poleLat-1), pointAt(157980019516, 2-poleLat)), "525614491801248", "623269319112784"},
		{"just farther", impl.TurnOf(48, pointAt(0, poleLat-1), pointAt(157980019517, 2-poleLat)), "525614491801088", "623277344402012"},
		{"just twice back", impl.TurnOf(48, pointAt(0, poleLat-1), pointAt(-157980019516, 2-poleLat)), "-623269319112784", "-525614491801248"},
		{"just farther back", impl.TurnOf(48, pointAt(0, poleLat-1), pointAt(-157980019517, 2-poleLat)), "-623277344402012", "-525614491801088"},
		{"about the pole", impl.TurnOf(72, pointAt(0, poleLat-1), pointAt(1-farStep, poleLat-1)), "-14753331006447627080784", "-14753331006447626977116"},
	})
	box := []impl.Point{pointAt(0, 0), pointAt(0, degree), pointAt(90*degree, degree), pointAt(90*degree, 0), pointAt(0, 0)}
	cap := []impl.Point{pointAt(0, 85*degree), pointAt(120*degree, 85*degree), pointAt(-120*degree, 85*degree), pointAt(0, 85*degree)}
	small := []impl.Point{pointAt(1, 2), pointAt(2, 2), pointAt(2, 3), pointAt(1, 3), pointAt(1, 2)}
	berlin, york, tokyo := pointAt(13404954000, 52520008000), pointAt(-74005974000, 40712776000), pointAt(139691706000, 35689487000)
	way, west := []impl.Point{berlin, york, tokyo, berlin}, []impl.Point{berlin, york}
	for _, c := range []struct {
		what      string
		got       impl.RangeResult
		low, high int64
	}{
		{"box", impl.AreaOf(48, box), 1416633920050, 1416633920107}, {"box", impl.AreaOf(72, box), 1416633920079, 1416633920080},
		{"box the other way", impl.AreaOf(48, turnedRound(box)), -1416633920109, -1416633920050}, {"box the other way", impl.AreaOf(96, turnedRound(box)), -1416633920080, -1416633920079},
		{"cap", impl.AreaOf(48, cap), 254630503150776, 254630503151885}, {"cap", impl.AreaOf(96, cap), 254630503151370, 254630503151371},
		{"small", impl.AreaOf(48, small), -19, 19}, {"small", impl.AreaOf(72, small), -1, 1}, {"small", impl.AreaOf(96, small), -1, 0},
		{"way", impl.LengthOf(48, way), 26149957915571, 26149957915673}, {"way", impl.LengthOf(96, way), 26149957915617, 26149957915620},
		{"sets", impl.SetDistance(48, west, []impl.Point{tokyo, pointAt(0, 0)}), 5972017488604, 5972017488622}, {"sets", impl.SetDistance(72, west, []impl.Point{tokyo, pointAt(0, 0)}), 5972017488614, 5972017488615},
	} {
		if c.got.Code != impl.OK || c.got.Range.Low != c.low || c.got.Range.High != c.high {
			t.Errorf("%s: got %v, want %d and %d", c.what, c.got, c.low, c.high)
		}
	}
}
