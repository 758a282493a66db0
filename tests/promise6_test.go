package tests

import (
	"fmt"
	"math"
	"math/big"
	"testing"

	"loop.example/g00742/impl"
)

func TestPromise6Numbers(t *testing.T) {
	if impl.Nano != degree || impl.MaxLon != halfLon || impl.MaxLat != poleLat || impl.Radius != radius {
		t.Error("Nano, MaxLon, MaxLat, Radius")
	}
}

func TestPromise6PointFaults(t *testing.T) {
	for _, a := range append(edgePoints(), somePoints()...) {
		if code := impl.PointFault(a); code != impl.OK {
			t.Errorf("PointFault of %v: got %d", a, code)
		}
	}
	for _, a := range faultyPoints() {
		if code := impl.PointFault(a); code != impl.ErrRange {
			t.Errorf("PointFault of %v: got %d", a, code)
		}
	}
}

func TestPromise6SamePlaces(t *testing.T) {
	points := edgePoints()
	for _, a := range points {
		for _, b := range points {
			if got := impl.IsSamePlace(a, b); got != isOnePlace(a, b) {
				t.Errorf("IsSamePlace of %v and %v: got %v", a, b, got)
			}
		}
		for _, b := range faultyPoints() {
			if impl.IsSamePlace(a, b) || impl.IsSamePlace(b, a) || impl.IsSamePlace(b, b) {
				t.Errorf("IsSamePlace of %v and %v", a, b)
			}
		}
	}
}

// Those that the document names, without the tests' own IsSamePlace.
func TestPromise6NamedPlaces(t *testing.T) {
	north, south := pointAt(3, poleLat), pointAt(3, -poleLat)
	for _, pair := range []pointPair{
		{north, north}, {north, pointAt(-4, poleLat)}, {north, pointAt(halfLon, poleLat)}, {south, pointAt(-4, -poleLat)}, {south, pointAt(-halfLon, -poleLat)},
		{pointAt(halfLon, 5), pointAt(-halfLon, 5)}, {pointAt(halfLon, 0), pointAt(halfLon, 0)}, {pointAt(-halfLon, poleLat-1), pointAt(halfLon, poleLat-1)}, {pointAt(7, 9), pointAt(7, 9)},
	} {
		checkSamePlace(t, pair, true)
	}
	for _, pair := range []pointPair{
		{north, south}, {north, pointAt(3, poleLat-1)}, {pointAt(3, poleLat-1), pointAt(4, poleLat-1)}, {pointAt(3, 1-poleLat), pointAt(4, 1-poleLat)},
		{pointAt(halfLon, 5), pointAt(-halfLon, 6)}, {pointAt(halfLon, 5), pointAt(1-halfLon, 5)}, {pointAt(halfLon, 5), pointAt(-halfLon, -5)}, {pointAt(halfLon, 5), pointAt(0, 5)},
		{pointAt(7, 9), pointAt(-7, 9)}, {pointAt(7, 9), pointAt(7, -9)}, {pointAt(7, 9), pointAt(9, 7)}, {pointAt(poleLat, 0), pointAt(-poleLat, 0)}, {pointAt(poleLat, 9), pointAt(7, 9)},
	} {
		checkSamePlace(t, pair, false)
	}
}

// checkSamePlace asks a pair both ways: only at the same place there is no way between.
func checkSamePlace(t *testing.T, pair pointPair, want bool) {
	t.Helper()
	a, b := pair[0], pair[1]
	if impl.IsSamePlace(a, b) != want || impl.IsSamePlace(b, a) != want {
		t.Errorf("IsSamePlace of %v and %v: got %v", a, b, !want)
	}
	for _, p := range precisions {
		angle, far := impl.AngleOf(p, a, b), impl.DistanceOf(p, b, a)
		if angle.Code != impl.OK || far.Code != impl.OK || (len(angle.Span.High.Limbs) == 0) != want || (far.Range == impl.Range{}) != want {
			t.Errorf("with %d of %v and %v: got %v and %v", p, a, b, angle, far)
		}
	}
}

func TestPromise6Radians(t *testing.T) {
	list := []int64{0, 1, -1, 7, degree, -degree, poleLat, -poleLat, halfLon, -halfLon, halfLon + 1, 2*halfLon - 1, 1 - 2*halfLon, 2 * halfLon, -2 * halfLon}
	d := dice(81)
	for range 30 {
		a := d.point()
		list = append(list, a.Lon, a.Lat, 2*a.Lon)
	}
	for _, p := range precisions {
		for _, nano := range list {
			what := fmt.Sprintf("RadSpan of %d", nano)
			want := steps(p).radians(nano)
			checkSpan(t, what, impl.RadSpan(p, nano), want.low, want.high)
			checkHolds(t, what, p, impl.RadSpan(p, nano), trueRadians(nano))
			checkNarrow(t, what, impl.RadSpan(p, nano), 1200)
		}
		for _, far := range []int64{2*halfLon + 1, -2*halfLon - 1, 361 * degree, -361 * degree, math.MaxInt64, math.MinInt64} {
			checkSpanCode(t, fmt.Sprintf("RadSpan of %d", far), impl.RadSpan(p, far), impl.ErrRange)
		}
	}
	for _, p := range noPrecisions() {
		checkSpanCode(t, "RadSpan without a precision", impl.RadSpan(p, 1), impl.ErrRange)
	}
}

// checkVector compares a vector with the steps, to the unit, and with where the point truly is.
func checkVector(t *testing.T, p int64, a impl.Point) {
	t.Helper()
	got := impl.VectorOf(p, a)
	want, truth := steps(p).vector(a), trueVector(a)
	for i, span := range []impl.Span{got.Vector.X, got.Vector.Y, got.Vector.Z} {
		what := fmt.Sprintf("VectorOf with %d of %v, axis %d", p, a, i)
		answer := impl.SpanResult{Code: got.Code, Span: span}
		checkSpan(t, what, answer, want[i].low, want[i].high)
		checkHolds(t, what, p, answer, truth[i])
		checkNarrow(t, what, answer, 1500)
	}
}

func TestPromise6Vectors(t *testing.T) {
	for _, p := range precisions {
		for _, a := range append(edgePoints(), somePoints()...) {
			checkVector(t, p, a)
		}
	}
}

// A vector of a point is as long as one.
func TestPromise6Lengths(t *testing.T) {
	for _, p := range precisions {
		one := impl.OneSpan(p).Span
		for _, a := range append(edgePoints(), somePoints()...) {
			vector := impl.VectorOf(p, a).Vector
			sum := impl.Span{}
			for _, axis := range []impl.Span{vector.X, vector.Y, vector.Z} {
				sum = impl.AddSpan(sum, impl.SquareSpan(p, axis).Span).Span
			}
			root := impl.RootSpan(p, sum)
			if !impl.IsWithin(one, sum) || !impl.IsWithin(one, root.Span) {
				t.Errorf("with %d of %v: the squares are %v, and their root %v", p, a, sum, root)
			}
			checkNarrow(t, "the length of a vector", root, 4000)
		}
	}
}

// checkAngle compares an angle with the steps, to the unit, and with the true one, and both ways with each other.
func checkAngle(t *testing.T, p int64, a impl.Point, b impl.Point, truth *big.Int) impl.SpanResult {
	t.Helper()
	what := fmt.Sprintf("AngleOf with %d of %v and %v", p, a, b)
	got := impl.AngleOf(p, a, b)
	want, code := steps(p).angle(a, b)
	if code != impl.OK {
		t.Errorf("%s: the steps tell the code %d", what, code)
	}
	checkSpan(t, what, got, want.low, want.high)
	checkSpan(t, what+" the other way", impl.AngleOf(p, b, a), want.low, want.high)
	checkHolds(t, what, p, got, truth)
	if got.Span.Low.Neg || impl.CompareBigs(got.Span.High, impl.PiSpan(p).Span.High) > 0 {
		t.Errorf("%s: got %v, which is below 0, or more than half around", what, got)
	}
	return got
}

// checkDistance compares a distance with the angle that is told and with the true one, and both ways with each other.
func checkDistance(t *testing.T, p int64, a impl.Point, b impl.Point, truth *big.Int) {
	t.Helper()
	what := fmt.Sprintf("DistanceOf with %d of %v and %v", p, a, b)
	got, back := impl.DistanceOf(p, a, b), impl.DistanceOf(p, b, a)
	want := steps(p).metres(endsOfSpan(checkAngle(t, p, a, b, truth).Span))
	if got.Code != impl.OK || got.Range != want || back != got {
		t.Errorf("%s: got %v, and %v the other way, want %v", what, got, back, want)
	}
	checkFar(t, what, got, truth)
	if (got.Range.High == 0) != isOnePlace(a, b) {
		t.Errorf("%s: got %v", what, got)
	}
	if half := steps(p).metres(steps(p).pi()); got.Range.Low < 0 || got.Range.High > half.High {
		t.Errorf("%s: got %v, and half around is %v", what, got, half)
	}
	if p == 96 && got.Range.High-got.Range.Low > 10 {
		t.Errorf("%s: got %v, which is too wide", what, got)
	}
}

func TestPromise6Distances(t *testing.T) {
	truth := func(pair pointPair) *big.Int { return trueAngle(pair[0], pair[1]) }
	withTruths(t, pointPairs(), truth, func(t *testing.T, p int64, pair pointPair, truth *big.Int) {
		checkDistance(t, p, pair[0], pair[1], truth)
	})
}

// Of points opposite each other the angle reaches to half around, and of nearly the same ones it is more than 0 at the highest precision.
func TestPromise6Ends(t *testing.T) {
	for _, a := range somePoints() {
		if isOnePlace(a, opposite(a)) {
			t.Fatalf("%v is opposite itself", a)
		}
		for _, p := range precisions {
			angle, pi := impl.AngleOf(p, a, opposite(a)), impl.PiSpan(p)
			if !sameEnds(angle.Span.High, pi.Span.High) || impl.OrderSpan(angle.Span, pi.Span) != 0 {
				t.Errorf("AngleOf with %d of %v and its opposite: got %v", p, a, angle)
			}
		}
		for _, b := range pointsAbout(a) {
			if got := impl.DistanceOf(96, a, b); !isOnePlace(a, b) && max(a.Lat, -a.Lat) < 80*degree && got.Range.Low <= 0 {
				t.Errorf("DistanceOf %v and %v: got %v", a, b, got)
			}
		}
	}
}

// metresOf is the answer that MetresOf has to give, or its code.
func metresOf(p int64, angle impl.Span) impl.RangeResult {
	told := endsOfSpan(angle)
	if steps(p).isFar(4, told) || told.low.Sign() < 0 {
		return impl.RangeResult{Code: impl.ErrRange}
	}
	return impl.RangeResult{Range: steps(p).metres(told)}
}

func TestPromise6Metres(t *testing.T) {
	for _, p := range precisions {
		one, far := twoTo(p, 0), twoTo(p+2, 0)
		near := []*big.Int{big.NewInt(1), twoTo(p-43, 0), twoTo(p-42, 0), one, twoTo(p, 1), product(one, big.NewInt(3)), twoTo(p+2, -1), far, twoTo(p+2, 1), twoTo(p+3, 0), twoTo(320, -1)}
		list := spansOf(bothSigns(near...))
		d := dice(91)
		for range 100 {
			x, y := d.numberTo(far), d.numberTo(far)
			low, high := leastAndGreatest(x.Abs(x), y.Abs(y))
			list = append(list, d.spanTo(far), spanOf(low, high))
		}
		for _, angle := range list {
			if got, want := impl.MetresOf(p, angle), metresOf(p, angle); got != want {
				t.Errorf("MetresOf with %d of %v: got %v, want %v", p, angle, got, want)
			}
		}
	}
}

// The bounds that the document names, one by one.
func TestPromise6MetresBounds(t *testing.T) {
	const all = 4 * radius
	for _, p := range precisions {
		zero, just, over := new(big.Int), twoTo(p+2, 0), twoTo(p+2, 1)
		cases := []struct {
			low, high *big.Int
			want      impl.RangeResult
		}{
			{zero, zero, impl.RangeResult{}},
			{just, just, impl.RangeResult{Range: impl.Range{Low: all, High: all}}},
			{zero, just, impl.RangeResult{Range: impl.Range{High: all}}},
			{zero, big.NewInt(1), impl.RangeResult{Range: impl.Range{High: 1}}},
			{big.NewInt(1), twoTo(p+2, -1), impl.RangeResult{Range: impl.Range{High: all}}},
			{twoTo(p, 0), twoTo(p, 0), impl.RangeResult{Range: impl.Range{Low: radius, High: radius}}},
			{twoTo(p, -1), twoTo(p, 1), impl.RangeResult{Range: impl.Range{Low: radius - 1, High: radius + 1}}},
			{zero, over, impl.RangeResult{Code: impl.ErrRange}},
			{over, over, impl.RangeResult{Code: impl.ErrRange}},
			{big.NewInt(-1), zero, impl.RangeResult{Code: impl.ErrRange}},
			{big.NewInt(-1), just, impl.RangeResult{Code: impl.ErrRange}},
			{big.NewInt(-2), big.NewInt(-1), impl.RangeResult{Code: impl.ErrRange}},
			{negative(just), just, impl.RangeResult{Code: impl.ErrRange}},
			{negative(over), over, impl.RangeResult{Code: impl.ErrRange}},
		}
		for _, c := range cases {
			if got := impl.MetresOf(p, spanOf(c.low, c.high)); got != c.want {
				t.Errorf("MetresOf with %d from %v to %v: got %v, want %v", p, c.low, c.high, got, c.want)
			}
		}
	}
}

// These ends were reckoned once by hand-written steps in another language.
func TestPromise6Known(t *testing.T) {
	vector := func(p int64) impl.Vector { return impl.VectorOf(p, pointAt(12500000000, -33250000000)).Vector }
	ofAxis := func(axis impl.Span) impl.SpanResult { return impl.SpanResult{Span: axis} }
	berlin, york := pointAt(13404954000, 52520008000), pointAt(-74005974000, 40712776000)
	origin, next := pointAt(0, 0), pointAt(degree, 0)
	cases := []knownEnds{
		{"a billionth of a degree", impl.RadSpan(48, 1), "4910", "4914"},
		{"all around", impl.RadSpan(72, 2*halfLon), "29671503700283895161976", "29671503700283895162816"},
		{"a quarter back", impl.RadSpan(96, -poleLat), "-124451306656115542615260972454", "-124451306656115542615260972184"},
		{"X", ofAxis(vector(48).X), "229813857400140", "229813857400377"},
		{"Y", ofAxis(vector(72).Y), "854774083110733452849", "854774083110733452985"},
		{"Z", ofAxis(vector(96).Z), "-43440265093874568930114337712", "-43440265093874568930114337463"},
		{"a degree", impl.AngleOf(48, origin, next), "4912665105376", "4912665105776"},
		{"a degree", impl.AngleOf(96, origin, next), "1382792296179061584614010512", "1382792296179061584614011072"},
		{"a billionth", impl.AngleOf(48, origin, pointAt(1, 0)), "0", "23726688"},
		{"a billionth", impl.AngleOf(96, origin, pointAt(1, 0)), "1382792283587247184", "1382792340883026480"},
		{"half around", impl.AngleOf(72, origin, pointAt(halfLon, 0)), "14835751850044763564812", "14835751850141947581408"},
		{"nearly half around", impl.AngleOf(72, origin, pointAt(halfLon-1, 0)), "14835751850022921955644", "14835751850073228104848"},
		{"over a sea", impl.AngleOf(72, berlin, york), "4732744175223723886160", "4732744175223723887840"},
		{"over a sea", impl.AngleOf(96, york, berlin), "79402271300470263974734696400", "79402271300470263974734698512"},
	}
	checkKnown(t, cases)
	for _, c := range []struct {
		p    int64
		a, b impl.Point
		want impl.Range
	}{
		{48, origin, next, impl.Range{Low: 111195080229, High: 111195080239}},
		{96, origin, next, impl.Range{Low: 111195080233, High: 111195080234}},
		{48, origin, pointAt(1, 0), impl.Range{Low: 0, High: 537039}},
		{72, origin, pointAt(1, 0), impl.Range{Low: 92, High: 161}},
		{96, origin, pointAt(1, 0), impl.Range{Low: 111, High: 112}},
		{48, pointAt(0, poleLat), pointAt(7*degree, -poleLat), impl.Range{Low: 20015113784298, High: 20015114442040}},
		{96, pointAt(0, poleLat), pointAt(7*degree, -poleLat), impl.Range{Low: 20015114442035, High: 20015114442036}},
		{48, berlin, york, impl.Range{Low: 6385009485777, High: 6385009485807}},
		{72, berlin, york, impl.Range{Low: 6385009485789, High: 6385009485790}},
	} {
		if got := impl.DistanceOf(c.p, c.a, c.b); got.Code != impl.OK || got.Range != c.want {
			t.Errorf("DistanceOf with %d of %v and %v: got %v, want %v", c.p, c.a, c.b, got, c.want)
		}
	}
}
