package tests

import (
	"math"
	"math/big"
	"testing"

	"loop.example/g00742/impl"
)

// The numbers of chapter 5, told once more.
const (
	degree  = 1000000000
	halfLon = 180 * degree
	poleLat = 90 * degree
	radius  = 6371008800000
)

// axes are X, Y and Z of a vector.
type axes [3]ends

func (p steps) radians(nano int64) ends {
	parts, half := product(p.one().low, big.NewInt(nano)), big.NewInt(halfLon)
	return p.multiply(p.pi(), ends{roundedDown(parts, half), roundedUp(parts, half)})
}

func (p steps) vector(a impl.Point) axes {
	lat, lon := p.radians(a.Lat), p.radians(a.Lon)
	z, _ := p.sine(lat)
	across, _ := p.cosine(lat)
	x, _ := p.cosine(lon)
	y, _ := p.sine(lon)
	return axes{p.multiply(across, x), p.multiply(across, y), z}
}

// way is the root of the squares of what reckon makes of two vectors.
func (p steps) way(a axes, b axes, reckon func(ends, ends) ends) ends {
	sum := alone(new(big.Int))
	for i := range a {
		sum = sum.plus(p.square(reckon(a[i], b[i])))
	}
	return p.root(sum)
}

func (p steps) angle(a impl.Point, b impl.Point) (ends, int64) {
	if isOnePlace(a, b) {
		return alone(new(big.Int)), impl.OK
	}
	u, v := p.vector(a), p.vector(b)
	turn, code := p.halfTurn(p.way(u, v, ends.less), p.way(u, v, ends.plus))
	if code != impl.OK {
		return ends{}, code
	}
	_, low := leastAndGreatest(turn.low, new(big.Int))
	_, high := leastAndGreatest(turn.high, new(big.Int))
	low, _ = leastAndGreatest(low, p.pi().high)
	high, _ = leastAndGreatest(high, p.pi().high)
	return ends{low, high}, impl.OK
}

// metres is how far one goes by an angle from 0 to 4 times one.
func (p steps) metres(angle ends) impl.Range {
	low, high := angle.times(radius).low, angle.times(radius).high
	return impl.Range{Low: roundedDown(low, p.one().low).Int64(), High: roundedUp(high, p.one().low).Int64()}
}

// isOnePlace tells of two points without a fault that they are the same place.
func isOnePlace(a impl.Point, b impl.Point) bool {
	isPole := a.Lat == poleLat || a.Lat == -poleLat
	return a.Lat == b.Lat && (isPole || (a.Lon-b.Lon)%(2*halfLon) == 0)
}

// trueRadians is the angle of so many billionths of a degree, in fine places.
func trueRadians(nano int64) *big.Int {
	angle := product(truePi(), big.NewInt(nano))
	return angle.Quo(angle, big.NewInt(halfLon))
}

// trueVector is where the point is, in fine places.
func trueVector(a impl.Point) [3]*big.Int {
	latSine, latCosine := trueWave(trueRadians(a.Lat))
	lonSine, lonCosine := trueWave(trueRadians(a.Lon))
	return [3]*big.Int{fineTimes(latCosine, lonCosine), fineTimes(latCosine, lonSine), latSine}
}

// trueAngle is the angle between two points, in fine places. Its sine and cosine are told by products of their vectors, which is another way than the program's.
func trueAngle(a impl.Point, b impl.Point) *big.Int {
	u, v := trueVector(a), trueVector(b)
	squares, cosine := new(big.Int), new(big.Int)
	for i := range u {
		j, k := (i+1)%3, (i+2)%3
		side := new(big.Int).Sub(fineTimes(u[j], v[k]), fineTimes(u[k], v[j]))
		squares.Add(squares, product(side, side))
		cosine.Add(cosine, fineTimes(u[i], v[i]))
	}
	sine := squares.Sqrt(squares)
	if cosine.Sign() < 0 {
		return new(big.Int).Sub(truePi(), trueAtan(sine, negative(cosine)))
	}
	return trueAtan(sine, cosine)
}

// checkFar checks that the true way of an angle that is told in fine places is between the metres that are answered.
func checkFar(t *testing.T, what string, got impl.RangeResult, angle *big.Int) {
	t.Helper()
	far, room := product(angle, big.NewInt(radius)), product(slack, big.NewInt(radius))
	low := new(big.Int).Lsh(big.NewInt(got.Range.Low), fine)
	high := new(big.Int).Lsh(big.NewInt(got.Range.High), fine)
	if got.Code != impl.OK || low.Sub(low, room).Cmp(far) > 0 || high.Add(high, room).Cmp(far) < 0 {
		t.Errorf("%s: %v has not %v in it", what, got, new(big.Int).Rsh(far, fine))
	}
}

func pointAt(lon int64, lat int64) impl.Point {
	return impl.Point{Lon: lon, Lat: lat}
}

// point throws a point.
func (d *dice) point() impl.Point {
	part := func(degrees int) int64 {
		return int64(d.below(2*degrees)-degrees)*degree + int64(d.below(degree))
	}
	return pointAt(part(180), part(90))
}

// edgeLons and edgeLats are the bounds, their neighbours, and what is within.
func edgeLons() []int64 {
	return []int64{-halfLon, 1 - halfLon, -poleLat, -1, 0, 1, poleLat, halfLon - 1, halfLon}
}

func edgeLats() []int64 {
	return []int64{-poleLat, 1 - poleLat, -45 * degree, -1, 0, 1, 45 * degree, poleLat - 1, poleLat}
}

// edgePoints are all points of these.
func edgePoints() []impl.Point {
	var list []impl.Point
	for _, lat := range edgeLats() {
		for _, lon := range edgeLons() {
			list = append(list, pointAt(lon, lat))
		}
	}
	return list
}

// faultyPoints are just behind a bound, and far behind it.
func faultyPoints() []impl.Point {
	var list []impl.Point
	for _, far := range []int64{1, degree, 1 << 32, math.MaxInt64 - halfLon} {
		for _, within := range []int64{0, 45 * degree, poleLat, -poleLat} {
			list = append(list, pointAt(halfLon+far, within), pointAt(-halfLon-far, within), pointAt(within, poleLat+far), pointAt(within, -poleLat-far), pointAt(2*within, poleLat+far))
		}
		list = append(list, pointAt(halfLon+far, poleLat+far), pointAt(-halfLon-far, -poleLat-far))
	}
	return append(list, pointAt(math.MinInt64, 0), pointAt(0, math.MinInt64), pointAt(math.MinInt64, math.MinInt64), pointAt(math.MaxInt64, 0), pointAt(0, math.MaxInt64), pointAt(0, halfLon))
}

// somePoints are poles, both ends of the Lons, edges and some others.
func somePoints() []impl.Point {
	list := []impl.Point{
		pointAt(0, poleLat), pointAt(7*degree, poleLat), pointAt(halfLon, poleLat), pointAt(-halfLon, poleLat), pointAt(0, -poleLat), pointAt(-halfLon, -poleLat),
		pointAt(0, poleLat-1), pointAt(halfLon, 1-poleLat), pointAt(halfLon, 5*degree), pointAt(-halfLon, 5*degree), pointAt(halfLon, -5*degree), pointAt(1-halfLon, 5*degree),
		pointAt(halfLon, 0), pointAt(-halfLon, 0), pointAt(0, 0), pointAt(1, 0), pointAt(0, -1), pointAt(poleLat, 0), pointAt(-poleLat, 45*degree),
	}
	d := dice(71)
	for range 6 {
		list = append(list, d.point())
	}
	return list
}

// opposite is the point on the other side of the globe.
func opposite(a impl.Point) impl.Point {
	if a.Lon > 0 {
		return pointAt(a.Lon-halfLon, -a.Lat)
	}
	return pointAt(a.Lon+halfLon, -a.Lat)
}

// pointsAbout are the points that are few billionths away from a, with what of them is on the globe.
func pointsAbout(a impl.Point) []impl.Point {
	var list []impl.Point
	for _, by := range []impl.Point{{Lon: 0, Lat: 0}, {Lon: 1, Lat: 0}, {Lon: -1, Lat: 0}, {Lon: 0, Lat: 1}, {Lon: 0, Lat: -1}, {Lon: 1, Lat: -1}, {Lon: 30, Lat: 40}, {Lon: -50000, Lat: 1000}} {
		b := pointAt(a.Lon+by.Lon, a.Lat+by.Lat)
		if max(b.Lon, -b.Lon) <= halfLon && max(b.Lat, -b.Lat) <= poleLat {
			list = append(list, b)
		}
	}
	return list
}

// pointPair is two points that are asked of together.
type pointPair [2]impl.Point

// pointPairs are all pairs of some points, and those that are nearly the same or lie nearly opposite each other.
func pointPairs() []pointPair {
	var list []pointPair
	points := somePoints()
	for i, a := range points {
		for _, b := range points[i:] {
			list = append(list, pointPair{a, b})
		}
		if i%2 == 0 {
			for _, b := range append(pointsAbout(a), pointsAbout(opposite(a))...) {
				list = append(list, pointPair{a, b})
			}
		}
	}
	// Their HalfTurn goes one way just below the angle whose half has the tangent 2, and the other way just above.
	for _, lon := range []int64{126869897645, 126869897646, 126869897647} {
		list = append(list, pointPair{pointAt(0, 0), pointAt(lon, 0)}, pointPair{pointAt(0, 0), pointAt(-lon, 0)})
	}
	return list
}

// The tests' own globe fits to what is known of it.
func TestTrueGlobe(t *testing.T) {
	near := func(what string, a, b impl.Point, want *big.Int) {
		t.Helper()
		if rest := new(big.Int).Sub(trueAngle(a, b), want); rest.CmpAbs(slack) > 0 {
			t.Errorf("%s: got %v, want %v", what, trueAngle(a, b), want)
		}
	}
	equator := pointAt(10*degree, 0)
	near("along the equator", equator, pointAt(31*degree, 0), trueRadians(21*degree))
	near("over the end of the Lons", pointAt(179*degree, 0), pointAt(-179*degree, 0), trueRadians(2*degree))
	near("up to the pole", equator, pointAt(99*degree, poleLat), trueRadians(poleLat))
	near("over the pole", pointAt(0, 80*degree), pointAt(halfLon, 70*degree), trueRadians(30*degree))
	near("nearly the same", pointAt(5, 7), pointAt(5, 8), trueRadians(1))
	for _, a := range somePoints() {
		near("the same", a, a, new(big.Int))
		near("opposite", a, opposite(a), truePi())
	}
	if _, cosine := trueWave(trueAngle(pointAt(0, 0), pointAt(60*degree, 0))); new(big.Int).Sub(cosine, twoTo(fine-1, 0)).CmpAbs(slack) > 0 {
		t.Errorf("a third of half around has the cosine %v", cosine)
	}
}
