package tests

import (
	"math/big"
	"slices"
	"testing"

	"loop.example/g00742/impl"
)

// The numbers of chapter 6, told once more.
const (
	mostPoints = 12
	farStep    = 179 * degree
	square     = 40589753128757
)

// stepBetween is the Lon of b less that of a, the shorter way around.
func stepBetween(a impl.Point, b impl.Point) int64 {
	step := b.Lon - a.Lon
	if step > halfLon {
		return step - 2*halfLon
	}
	if step < -halfLon {
		return step + 2*halfLon
	}
	return step
}

func isPole(a impl.Point) bool {
	return a.Lat == poleLat || a.Lat == -poleLat
}

func (p steps) halfTangent(nano int64) ends {
	angle := p.radians(nano)
	sine, _ := p.sine(angle)
	cosine, _ := p.cosine(angle)
	return p.divide(sine, p.one().plus(cosine))
}

// sideParts are n and m of a side of a ring.
func (p steps) sideParts(a impl.Point, b impl.Point) (n ends, m ends) {
	t, u, v := p.halfTangent(stepBetween(a, b)), p.halfTangent(a.Lat), p.halfTangent(b.Lat)
	return p.multiply(t, u.plus(v)), p.one().plus(p.multiply(u, v))
}

// overTwice is how much farther from 0 an end of n is than twice the Low of m.
func overTwice(n ends, m ends) int64 {
	return new(big.Int).Sub(n.far(), m.times(2).low).Int64()
}

// turnOfSide is what chapter 6 tells of two points without a fault.
func (p steps) turnOfSide(a impl.Point, b impl.Point) (ends, int64) {
	if step := stepBetween(a, b); step >= farStep || step <= -farStep || isPole(a) || isPole(b) {
		return ends{}, impl.ErrForm
	}
	n, m := p.sideParts(a, b)
	if n.far().Cmp(m.times(2).low) <= 0 {
		angle, code := p.atan(p.divide(n, m))
		return angle.times(2), code
	}
	if n.low.Sign() <= 0 && n.high.Sign() >= 0 {
		return ends{}, impl.ErrZero
	}
	half := p.part(2, p.pi())
	angle, code := p.atan(p.divide(m, n))
	if n.low.Sign() > 0 {
		return half.less(angle).times(2), code
	}
	below := half.plus(angle)
	return ends{negative(below.high), negative(below.low)}.times(2), code
}

// area is what chapter 6 tells of a list without a fault.
func (p steps) area(ring []impl.Point) impl.RangeResult {
	if len(ring) < 4 || ring[0] != ring[len(ring)-1] {
		return impl.RangeResult{Code: impl.ErrForm}
	}
	sum := alone(new(big.Int))
	for i := range len(ring) - 1 {
		turn, code := p.turnOfSide(ring[i], ring[i+1])
		if code != impl.OK {
			return impl.RangeResult{Code: code}
		}
		sum = sum.plus(turn)
	}
	sum = sum.times(square)
	return impl.RangeResult{Range: impl.Range{Low: roundedDown(sum.low, p.one().low).Int64(), High: roundedUp(sum.high, p.one().low).Int64()}}
}

func (p steps) distance(a impl.Point, b impl.Point) impl.Range {
	angle, _ := p.angle(a, b)
	return p.metres(angle)
}

func (p steps) length(list []impl.Point) impl.Range {
	var sum impl.Range
	for i := range len(list) - 1 {
		far := p.distance(list[i], list[i+1])
		sum.Low += far.Low
		sum.High += far.High
	}
	return sum
}

func (p steps) setDistance(a []impl.Point, b []impl.Point) impl.Range {
	least := p.distance(a[0], b[0])
	for _, from := range a {
		for _, to := range b {
			far := p.distance(from, to)
			least.Low, least.High = min(least.Low, far.Low), min(least.High, far.High)
		}
	}
	return least
}

// trueTurn is how much a side turns with the equator, in fine places: the whole sector up to the pole, which is as great as its step, less what the side and the pole have between them.
// That triangle is told by products of vectors, which is another way than the program's.
func trueTurn(a impl.Point, b impl.Point) *big.Int {
	u, v := trueVector(a), trueVector(b)
	up := new(big.Int).Sub(fineTimes(u[0], v[1]), fineTimes(u[1], v[0]))
	flat := twoTo(fine, 0)
	for i := range u {
		flat.Add(flat, fineTimes(u[i], v[i]))
	}
	flat.Add(flat, u[2]).Add(flat, v[2])
	half := trueAtan(up, new(big.Int).Abs(flat))
	switch {
	case flat.Sign() < 0 && up.Sign() < 0:
		half = negative(half.Add(half, truePi()))
	case flat.Sign() < 0:
		half.Sub(truePi(), half)
	}
	return new(big.Int).Sub(trueRadians(stepBetween(a, b)), half.Lsh(half, 1))
}

// trueArea is what the sides of a ring turn together, in fine places.
func trueArea(ring []impl.Point) *big.Int {
	sum := new(big.Int)
	for i := range len(ring) - 1 {
		sum.Add(sum, trueTurn(ring[i], ring[i+1]))
	}
	return sum
}

// trueLength is the sum of the angles of a way, in fine places.
func trueLength(list []impl.Point) *big.Int {
	sum := new(big.Int)
	for i := range len(list) - 1 {
		sum.Add(sum, trueAngle(list[i], list[i+1]))
	}
	return sum
}

// trueGap is the least angle between two sets, in fine places.
func trueGap(a []impl.Point, b []impl.Point) *big.Int {
	least := truePi()
	for _, from := range a {
		for _, to := range b {
			least, _ = leastAndGreatest(least, trueAngle(from, to))
		}
	}
	return least
}

// places throws a list of n points.
func (d *dice) places(n int) []impl.Point {
	list := make([]impl.Point, n)
	for i := range list {
		list[i] = d.point()
	}
	return list
}

// ring throws a ring of n points whose sides are all told.
func (d *dice) ring(n int) []impl.Point {
	list := []impl.Point{d.point()}
	for len(list) < n-1 {
		next := d.point()
		last := len(list) == n-2
		if isSide(list[len(list)-1], next) && (!last || isSide(next, list[0])) {
			list = append(list, next)
		}
	}
	return append(list, list[0])
}

// isSide tells that a ring may go from a to b.
func isSide(a impl.Point, b impl.Point) bool {
	step := stepBetween(a, b)
	return step < farStep && step > -farStep && !isPole(a) && !isPole(b)
}

// turnedRound is the list the other way around.
func turnedRound(list []impl.Point) []impl.Point {
	turned := slices.Clone(list)
	slices.Reverse(turned)
	return turned
}

// shifted is the list, so much farther around, where no Lon leaves its bounds by it.
func shifted(list []impl.Point, by int64) []impl.Point {
	var moved []impl.Point
	for _, a := range list {
		lon := a.Lon + by
		if lon > halfLon {
			lon -= 2 * halfLon
		}
		moved = append(moved, pointAt(lon, a.Lat))
	}
	return moved
}

// alike is a list of n points that are all the same.
func alike(n int, a impl.Point) []impl.Point {
	return slices.Repeat([]impl.Point{a}, n)
}

// The tests' own turns fit to what is known of them.
func TestTrueTurns(t *testing.T) {
	near := func(what string, a, b impl.Point, want *big.Int) {
		t.Helper()
		got := trueTurn(a, b)
		if rest := new(big.Int).Sub(got, want); rest.CmpAbs(slack) > 0 {
			t.Errorf("%s: %v and %v turn %v, want %v", what, a, b, got, want)
		}
		back := trueTurn(b, a)
		if rest := new(big.Int).Add(got, back); rest.CmpAbs(slack) > 0 {
			t.Errorf("%s: %v and %v turn %v, and %v the other way", what, a, b, got, back)
		}
	}
	zero, north, south := new(big.Int), int64(30*degree), int64(-30*degree)
	// On two ends of one Lat the tangent of a half of the turn is the half tangent of the step times the sine of the Lat.
	half := trueAtan(big.NewInt(1), big.NewInt(2))
	near("a quarter", pointAt(0, north), pointAt(90*degree, north), new(big.Int).Lsh(half, 1))
	near("a quarter in the south", pointAt(5*degree, south), pointAt(95*degree, south), negative(new(big.Int).Lsh(half, 1)))
	near("over the end of the Lons", pointAt(100*degree, north), pointAt(-170*degree, north), new(big.Int).Lsh(half, 1))
	near("along the equator", pointAt(0, 0), pointAt(170*degree, 0), zero)
	near("along a meridian", pointAt(7, north), pointAt(7, -80*degree), zero)
	near("nowhere", pointAt(7, poleLat-1), pointAt(7, poleLat-1), zero)
	near("over the equator", pointAt(0, north), pointAt(150*degree, south), zero)
	near("from just behind one pole to just ahead of the other one", pointAt(0, poleLat-1), pointAt(178*degree, 1-poleLat), zero)
	near("up to where the whole circle turns back", pointAt(0, 0), pointAt(90*degree, 60*degree), trueRadians(60*degree))
}
