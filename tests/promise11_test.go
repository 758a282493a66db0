package tests

import (
	"fmt"
	"math"
	"math/big"
	"slices"
	"testing"

	"loop.example/g00742/impl"
)

// The numbers of chapter 10 and of promise 11, told once more.
const (
	mostTold  = 9 * mostFar
	mostWidth = 1000
)

// widthCase is a range, and what has to be told of it.
type widthCase struct {
	low, high   int64
	code, value int64
}

func (c widthCase) check(t *testing.T) {
	t.Helper()
	if got := impl.WidthOf(impl.Range{Low: c.low, High: c.high}); got != (impl.IntResult{Code: c.code, Value: c.value}) {
		t.Errorf("WidthOf of %d to %d: got %v, want %d with the code %d", c.low, c.high, got, c.value, c.code)
	}
}

func TestPromise11WidthsByHand(t *testing.T) {
	for _, c := range []widthCase{
		{3, 9, impl.OK, 6}, {0, 0, impl.OK, 0}, {0, 1, impl.OK, 1}, {1, 1, impl.OK, 0}, {1, 2, impl.OK, 1}, {7, 7, impl.OK, 0}, {111195080233, 111195080234, impl.OK, 1}, {0, mostFar, impl.OK, mostFar}, {mostFar - 1, mostFar + 1, impl.OK, 2},
		{0, mostTold, impl.OK, mostTold}, {1, mostTold, impl.OK, mostTold - 1}, {0, mostTold - 1, impl.OK, mostTold - 1}, {mostTold - 1, mostTold, impl.OK, 1}, {mostTold, mostTold, impl.OK, 0}, {mostTold - 1, mostTold - 1, impl.OK, 0},
		{-1, 0, impl.ErrRange, 0}, {-1, 1, impl.ErrRange, 0}, {-1, mostTold, impl.ErrRange, 0}, {-1, -1, impl.ErrRange, 0}, {-2, -1, impl.ErrRange, 0}, {math.MinInt64, 0, impl.ErrRange, 0}, {math.MinInt64, mostTold, impl.ErrRange, 0}, {math.MinInt64, math.MinInt64, impl.ErrRange, 0},
		{0, mostTold + 1, impl.ErrRange, 0}, {1, mostTold + 1, impl.ErrRange, 0}, {mostTold, mostTold + 1, impl.ErrRange, 0}, {mostTold + 1, mostTold + 1, impl.ErrRange, 0}, {mostTold + 1, mostTold + 2, impl.ErrRange, 0}, {0, math.MaxInt64, impl.ErrRange, 0}, {math.MaxInt64, math.MaxInt64, impl.ErrRange, 0},
		{-1, mostTold + 1, impl.ErrRange, 0}, {math.MinInt64, math.MaxInt64, impl.ErrRange, 0},
		{9, 3, impl.ErrForm, 0}, {1, 0, impl.ErrForm, 0}, {8, 7, impl.ErrForm, 0}, {mostTold, mostTold - 1, impl.ErrForm, 0}, {mostTold, 0, impl.ErrForm, 0},
		// The form is asked first.
		{0, -1, impl.ErrForm, 0}, {-1, -2, impl.ErrForm, 0}, {mostTold, -1, impl.ErrForm, 0}, {mostTold + 1, mostTold, impl.ErrForm, 0}, {mostTold + 1, 0, impl.ErrForm, 0}, {mostTold + 2, mostTold + 1, impl.ErrForm, 0}, {mostTold + 1, -1, impl.ErrForm, 0}, {math.MaxInt64, math.MinInt64, impl.ErrForm, 0},
	} {
		c.check(t)
	}
}

// Ranges of each low and each high that are about a bound.
func TestPromise11WidthsOfAllEnds(t *testing.T) {
	var ends []int64
	for _, about := range []int64{0, 65536, 1 << 32, mostFar, mostTold} {
		for by := int64(-3); by <= 3; by++ {
			ends = append(ends, about+by)
		}
	}
	ends = append(ends, wildEnds()...)
	isOut := func(end int64) bool { return end < 0 || end > 9000000000000000 }
	for _, low := range ends {
		for _, high := range ends {
			switch {
			case low > high:
				widthCase{low, high, impl.ErrForm, 0}.check(t)
			case isOut(low) || isOut(high):
				widthCase{low, high, impl.ErrRange, 0}.check(t)
			default:
				width := new(big.Int).Sub(big.NewInt(high), big.NewInt(low))
				widthCase{low, high, impl.OK, width.Int64()}.check(t)
			}
		}
	}
}

// checkTriangle checks that a way over c is not told as shorter, and that what is told of all three distances says so.
func checkTriangle(t *testing.T, a impl.Point, b impl.Point, c impl.Point) {
	t.Helper()
	straight, from, to := impl.DistanceOf(96, a, b), impl.DistanceOf(96, a, c), impl.DistanceOf(96, c, b)
	if straight.Code+from.Code+to.Code != impl.OK || straight.Range.Low > from.Range.High+to.Range.High {
		t.Errorf("from %v to %v there are %v, and over %v %v and %v", a, b, straight, c, from, to)
	}
	if !impl.IsTriangle(a, b, c) {
		t.Errorf("IsTriangle of %v, %v and %v", a, b, c)
	}
}

// trianglePoints are a pole by two numbers, the other pole, both ends of the Lons, a point and its opposite, one beside it, and others.
func trianglePoints() []impl.Point {
	d := dice(211)
	a := pointAt(20*degree, 30*degree)
	return []impl.Point{pointAt(0, poleLat), pointAt(-halfLon, poleLat), pointAt(7, -poleLat), pointAt(halfLon, 5), pointAt(-halfLon, 5), a, opposite(a), pointAt(a.Lon+1, a.Lat), d.point()}
}

// Each three of these, in each order; two of them, or all, may be the same.
func TestPromise11Triangles(t *testing.T) {
	points := trianglePoints()
	for _, a := range points {
		t.Run(fmt.Sprint(a), func(t *testing.T) {
			t.Parallel()
			for _, b := range points {
				for _, c := range points {
					checkTriangle(t, a, b, c)
				}
			}
		})
	}
}

func TestPromise11ThrownTriangles(t *testing.T) {
	d := dice(212)
	for range 60 {
		list := d.places(3)
		a, b, c := list[0], list[1], list[2]
		checkTriangle(t, a, b, c)
		checkTriangle(t, a, c, b)
		// Points that are nearly the same, and such as lie nearly opposite.
		near := pointsAbout(a)
		far := pointsAbout(opposite(a))
		checkTriangle(t, a, near[d.below(len(near))], near[d.below(len(near))])
		checkTriangle(t, far[d.below(len(far))], near[d.below(len(near))], b)
	}
}

// circleWays are three points of one great circle each, of which the second one is on the way from the first one to the third one.
func circleWays() [][3]impl.Point {
	list := [][3]impl.Point{
		{pointAt(0, 0), pointAt(degree, 0), pointAt(2*degree, 0)}, {pointAt(0, 0), pointAt(10*degree, 0), pointAt(31*degree, 0)}, {pointAt(-50*degree, 0), pointAt(3, 0), pointAt(129*degree, 0)},
		{pointAt(170*degree, 0), pointAt(halfLon, 0), pointAt(-170*degree, 0)}, {pointAt(170*degree, 0), pointAt(-halfLon, 0), pointAt(-170*degree, 0)}, {pointAt(170*degree, 0), pointAt(-179*degree, 0), pointAt(-10*degree, 0)},
		{pointAt(7, -80*degree), pointAt(7, 0), pointAt(7, 80*degree)}, {pointAt(halfLon, -20*degree), pointAt(-halfLon, 11), pointAt(halfLon, 70*degree)}, {pointAt(5, 1-poleLat), pointAt(5, 45*degree), pointAt(5, poleLat-1)},
		{pointAt(0, 80*degree), pointAt(33, poleLat), pointAt(halfLon, 70*degree)}, {pointAt(0, 80*degree), pointAt(halfLon, 85*degree), pointAt(-halfLon, 70*degree)}, {pointAt(90*degree, -89*degree), pointAt(0, -poleLat), pointAt(-90*degree, -2*degree)},
		{pointAt(0, 0), pointAt(1, 0), pointAt(2, 0)}, {pointAt(4, 7), pointAt(4, 8), pointAt(4, 9)}, {pointAt(9, poleLat-1), pointAt(0, poleLat), pointAt(halfLon, poleLat-1)},
		// Ahead and behind there is nothing between.
		{pointAt(5, 6), pointAt(5, 6), pointAt(degree, 9)}, {pointAt(5, 6), pointAt(degree, 9), pointAt(degree, 9)}, {pointAt(7, poleLat), pointAt(8, poleLat), pointAt(5, 0)}, {pointAt(halfLon, 9), pointAt(-halfLon, 9), pointAt(5, 0)},
	}
	// From one side of the globe to the other one each point is on the way.
	for i, a := range somePoints() {
		list = append(list, [3]impl.Point{a, somePoints()[(i*7+3)%len(somePoints())], opposite(a)})
	}
	return list
}

// A way over a point between is just as long: only rounded to the safe side it is told as not shorter.
func TestPromise11PointsBetween(t *testing.T) {
	isLessByLows := 0
	for _, way := range circleWays() {
		a, between, b := way[0], way[1], way[2]
		whole, from, to := impl.DistanceOf(96, a, b).Range, impl.DistanceOf(96, a, between).Range, impl.DistanceOf(96, between, b).Range
		if whole.High < from.Low+to.Low || whole.Low > from.High+to.High {
			t.Errorf("from %v to %v there are %v, and over %v, which is between, %v and %v", a, b, whole, between, from, to)
		}
		if whole.Low > from.Low+to.Low {
			isLessByLows++
		}
		for _, three := range [][3]impl.Point{{a, b, between}, {b, a, between}, {a, between, b}, {between, a, b}, {b, between, a}, {between, b, a}} {
			checkTriangle(t, three[0], three[1], three[2])
		}
	}
	if isLessByLows < 3 {
		t.Errorf("only %d ways are told as shorter by their Lows", isLessByLows)
	}
}

// Of three points of one great circle none may be between the other two.
func TestPromise11PointsNotBetween(t *testing.T) {
	for _, turn := range []int64{0, 1, 25 * degree} {
		around := [3]impl.Point{pointAt(turn, 0), pointAt(120*degree+turn, 0), pointAt(turn-120*degree, 0)}
		upright := [3]impl.Point{pointAt(turn, 50*degree), pointAt(turn-halfLon, 10*degree), pointAt(turn, -60*degree)}
		for _, way := range [][3]impl.Point{around, upright} {
			for i := range way {
				a, b, c := way[i], way[(i+1)%3], way[(i+2)%3]
				straight, over := impl.DistanceOf(96, a, b).Range, impl.LengthOf(96, []impl.Point{a, c, b}).Range
				if over.Low <= straight.High {
					t.Errorf("from %v to %v there are %v, and over %v %v", a, b, straight, c, over)
				}
				checkTriangle(t, a, b, c)
				checkTriangle(t, b, a, c)
			}
		}
	}
}

// meet tells that two ranges have a number in common, asked by the ends of what is in both.
func meet(a impl.Range, b impl.Range) bool {
	return max(a.Low, b.Low) <= min(a.High, b.High)
}

// auditedPairs are sets of all sizes, of one point each, with a common place, with a point twice, and each list against itself.
func auditedPairs() []setPair {
	list := askedPairs()
	d := dice(213)
	for n := 1; n <= mostPoints; n += 11 {
		a := d.places(n)
		list = append(list, setPair{a, a}, setPair{a, turnedRound(a)}, setPair{a, {opposite(a[0])}}, setPair{a, pointsAbout(a[n-1])})
	}
	twice := d.point()
	for _, a := range trianglePoints() {
		list = append(list, setPair{{a}, {a}}, setPair{{a}, {twice}}, setPair{{twice, a, twice}, {opposite(twice)}})
	}
	return list
}

// What is told at each precision has the truth in it, and so all have it in common.
func TestPromise11TruthInEach(t *testing.T) {
	for i, pair := range auditedPairs() {
		t.Run(fmt.Sprint(i), func(t *testing.T) {
			t.Parallel()
			a, b := pair[0], pair[1]
			gap := trueGap(a, b)
			var told []impl.Range
			for _, p := range precisions {
				got := impl.SetDistance(p, a, b)
				checkFar(t, fmt.Sprintf("SetDistance with %d of %v", p, pair), got, gap)
				for _, other := range told {
					if !meet(got.Range, other) {
						t.Errorf("SetDistance of %v: %v and %v have nothing in common", pair, got.Range, other)
					}
				}
				told = append(told, got.Range)
			}
			if width := told[2].High - told[2].Low; width < 0 || width > mostWidth {
				t.Errorf("SetDistance of %v: %v is not told to a thousandth of a metre", pair, told[2])
			}
			if !impl.IsNested(a, b) || !impl.IsNested(b, a) {
				t.Errorf("IsNested of %v", pair)
			}
		})
	}
}

// What is told of two sets fits to what is told of each two of their points, at whatever precisions.
func TestPromise11FitsToAll(t *testing.T) {
	for i, pair := range auditedPairs() {
		if i%3 > 0 || len(pair[0])*len(pair[1]) > 40 {
			continue
		}
		t.Run(fmt.Sprint(i), func(t *testing.T) {
			t.Parallel()
			for _, p := range precisions {
				whole := impl.SetDistance(p, pair[0], pair[1]).Range
				for _, q := range precisions {
					least := int64(math.MaxInt64)
					for _, a := range pair[0] {
						for _, b := range pair[1] {
							far := impl.DistanceOf(q, a, b).Range
							least = min(least, far.Low)
							if whole.Low > far.High {
								t.Errorf("SetDistance with %d of %v: %v, but %v and %v are %v away with %d", p, pair, whole, a, b, far, q)
							}
						}
					}
					if least > whole.High {
						t.Errorf("SetDistance with %d of %v: %v, but no two points are so near with %d", p, pair, whole, q)
					}
				}
			}
		})
	}
}

// Each fault of either list makes it false, also where the other list has one.
func TestPromise11NestedFaults(t *testing.T) {
	d := dice(214)
	sound := [][]impl.Point{d.places(1), d.places(3), d.places(mostPoints)}
	faults := faultyLists(impl.ErrMany, impl.ErrRange)
	for i, f := range faults {
		for _, other := range append(sound, f.list, faults[(i*5+1)%len(faults)].list) {
			if impl.IsNested(f.list, other) || impl.IsNested(other, f.list) {
				t.Errorf("IsNested of %v and %v", f.list, other)
			}
		}
	}
}

// worstOf is what WorstWidth has to tell of a list without a fault, by the steps.
func worstOf(list []impl.Point) int64 {
	worst := int64(0)
	for _, a := range list {
		for _, b := range list {
			far := steps(96).distance(a, b)
			worst = max(worst, far.High-far.Low)
		}
	}
	return worst
}

func checkWorst(t *testing.T, list []impl.Point, want int64) {
	t.Helper()
	if got := impl.WorstWidth(list); got != (impl.CheckResult{Width: want}) {
		t.Errorf("WorstWidth of %v: got %v, want %d", list, got, want)
	}
	if want < 0 || want > mostWidth {
		t.Errorf("WorstWidth of %v: %d is wide", list, want)
	}
}

func TestPromise11WorstWidths(t *testing.T) {
	for i, list := range append(lists(), pointsAbout(pointAt(5, poleLat-1)), append(pointsAbout(pointAt(0, 0)), pointAt(halfLon, 0)), trianglePoints()) {
		t.Run(fmt.Sprint(i), func(t *testing.T) {
			t.Parallel()
			checkWorst(t, list, worstOf(list))
			checkWorst(t, turnedRound(list), impl.WorstWidth(list).Width)
		})
	}
}

// wideEnds are two points of which a distance is told more widely than of most: hardly a millionth of a metre apart, beside a pole.
func wideEnds() (impl.Point, impl.Point) {
	return pointAt(0, poleLat-1), pointAt(515000000, poleLat-1)
}

func TestPromise11WorstByHand(t *testing.T) {
	for _, a := range append(somePoints(), trianglePoints()...) {
		for n := 1; n <= mostPoints; n++ {
			checkWorst(t, alike(n, a), 0)
		}
	}
	// One place by other numbers is the same place.
	checkWorst(t, []impl.Point{pointAt(halfLon, 5), pointAt(-halfLon, 5)}, 0)
	checkWorst(t, []impl.Point{pointAt(0, poleLat), pointAt(9, poleLat), pointAt(-halfLon, poleLat)}, 0)
	checkWorst(t, []impl.Point{pointAt(0, 0), pointAt(degree, 0)}, 1)
	checkWorst(t, []impl.Point{pointAt(0, 0), pointAt(0, 0), pointAt(halfLon, 0)}, 1)
	a, b := wideEnds()
	if far := steps(96).distance(a, b); far != (impl.Range{Low: 0, High: 2}) {
		t.Fatalf("%v and %v are %v away", a, b, far)
	}
	checkWorst(t, []impl.Point{a, b}, 2)
	checkWorst(t, []impl.Point{b, a}, 2)
}

// The greatest width is told wherever its two points stand in the list.
func TestPromise11WorstOfEachPair(t *testing.T) {
	a, b := wideEnds()
	for _, n := range []int{2, 3, 5, mostPoints} {
		for i := range n {
			for j := range n {
				list := alike(n, pointAt(5*degree, 0))
				list[i], list[j] = a, b
				want := int64(2)
				if i == j {
					want = min(1, int64(n)-1)
				}
				checkWorst(t, list, want)
			}
		}
	}
}

func TestPromise11WorstCodes(t *testing.T) {
	d := dice(215)
	check := func(list []impl.Point, code int64) {
		t.Helper()
		if got := impl.WorstWidth(list); got != (impl.CheckResult{Code: code}) {
			t.Errorf("WorstWidth of %v: got %v, want %d", list, got, code)
		}
	}
	check(nil, impl.ErrMany)
	check([]impl.Point{}, impl.ErrMany)
	check(d.places(mostPoints+1), impl.ErrMany)
	check(d.places(100), impl.ErrMany)
	for _, wrong := range faultyPoints() {
		check([]impl.Point{wrong}, impl.ErrRange)
		check(append(d.places(mostPoints), wrong), impl.ErrMany)
		n := 1 + d.below(mostPoints)
		for at := range n {
			list := d.places(n)
			list[at] = wrong
			check(list, impl.ErrRange)
		}
	}
}

// sureFars are the bounds and what is beside them, and what is just below, at and just above the ends of the best distance.
func sureFars(best impl.Range) []int64 {
	fars := append(farsAbout([]impl.Range{best}), best.Low/2, min(mostFar, 2*best.High))
	slices.Sort(fars)
	return slices.Compact(fars)
}

// A question is answered only as it is: yes only if it is within far, and no only if it is not.
func TestPromise11Sure(t *testing.T) {
	for i, pair := range auditedPairs() {
		t.Run(fmt.Sprint(i), func(t *testing.T) {
			t.Parallel()
			gap := trueGap(pair[0], pair[1])
			for _, far := range sureFars(impl.BestDistance(pair[0], pair[1]).Range) {
				if asked := impl.WithinOf(pair[0], pair[1], far); asked.Code != impl.OK || !isSure(asked.Answer, far, gap) {
					t.Errorf("WithinOf of %v and %d: %v is not true", pair, far, asked)
				}
				if !impl.IsSure(pair[0], pair[1], far) {
					t.Errorf("IsSure of %v and %d", pair, far)
				}
			}
			for _, far := range badFars() {
				if impl.IsSure(pair[0], pair[1], far) {
					t.Errorf("IsSure of %v and %d", pair, far)
				}
			}
		})
	}
}

// Each answer by each precision is sure.
func TestPromise11KnownSure(t *testing.T) {
	told := map[int64]bool{}
	for _, c := range knownAsks() {
		for _, each := range c.from {
			told[each.answer] = true
			for _, far := range []int64{max(0, each.far-1), each.far, each.far + 1} {
				if !impl.IsSure([]impl.Point{c.a}, []impl.Point{c.b}, far) || !impl.IsSure([]impl.Point{c.b}, []impl.Point{c.a}, far) {
					t.Errorf("IsSure of %v, %v and %d", c.a, c.b, far)
				}
			}
		}
	}
	if len(told) != 3 {
		t.Errorf("there are only the answers %v", told)
	}
}

// countCase is a store, and how many of its names have a set.
type countCase struct {
	store impl.Store
	want  int64
}

func TestPromise11NamesByHand(t *testing.T) {
	point, multi, line, ring := storedSets()[0], storedSets()[7], storedWays()[0], storedWays()[4]
	for _, c := range []countCase{
		{impl.Store{}, 0}, {storeOf(), 0}, {impl.Store{List: []impl.Named{}}, 0},
		{storeOf(named("a", point)), 1}, {storeOf(named("a", multi)), 1}, {storeOf(named("a", line)), 0}, {storeOf(named("a", ring)), 0},
		{storeOf(named("a", line), named("b", ring)), 0}, {storeOf(named("a", point), named("b", multi)), 2}, {storeOf(named("a", line), named("b", point), named("c", ring), named("d", multi)), 2},
		{storeOf(named("a", point), named("b", point)), 2}, {storeOf(named("a", multi), named("b", line)), 1}, {storeOf(named("a", ring), named("b", point)), 1},
		{storeWith(fullNames, point), mostNames}, {storeWith(fullNames, multi), mostNames}, {storeWith(fullNames, line), 0}, {storeWith(fullNames, ring), 0}, {storeWith(fullNames, point, multi, line, ring), 6}, {storeWith(fullNames, line, ring, point), 3}, {storeWith(fullNames[1:], point, ring), 5},
	} {
		if got := impl.NamesIn(c.store); got != (impl.IntResult{Value: c.want}) {
			t.Errorf("NamesIn of %v: got %v, want %d", c.store, got, c.want)
		}
	}
}

// Each store is counted, and told its fault, as it is without the program.
func TestPromise11Names(t *testing.T) {
	told := map[int64]bool{}
	check := func(s impl.Store) {
		want := wantNames(storeQuestion{store: s})
		told[want.code] = true
		if got := impl.NamesIn(s); got != (impl.IntResult{Code: want.code, Value: want.count}) {
			t.Errorf("NamesIn of %v: got %v, want %v", s, got, want)
		}
	}
	for _, s := range append(soundStores(), mixedStore()) {
		check(s)
	}
	for _, f := range faultyStores() {
		check(f.store)
	}
	if len(told) != 5 {
		t.Errorf("there are only the codes %v", told)
	}
}
