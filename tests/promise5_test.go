package tests

import (
	"fmt"
	"math/big"
	"testing"

	"loop.example/g00742/impl"
)

// angleCase is a function of chapter 4 of one span: what it answers, the steps that tell it, its true number, and how far from 0 an end may be.
type angleCase struct {
	name  string
	bound int64
	run   func(p int64, x impl.Span) impl.SpanResult
	told  func(p steps, x ends) (ends, int64)
	truth func(p int64, x *big.Int) *big.Int
}

func angleCases() []angleCase {
	atan := func(p int64, x *big.Int) *big.Int { return trueAtan(x, twoTo(p, 0)) }
	sine := func(p int64, x *big.Int) *big.Int {
		sine, _ := trueWave(finely(p, x))
		return sine
	}
	cosine := func(p int64, x *big.Int) *big.Int {
		_, cosine := trueWave(finely(p, x))
		return cosine
	}
	return []angleCase{
		{"ArcSeries", 1, impl.ArcSeries, steps.arcSeries, atan},
		{"AtanSpan", 2, impl.AtanSpan, steps.atan, atan},
		{"SinSpan", 7, impl.SinSpan, steps.sine, sine},
		{"CosSpan", 7, impl.CosSpan, steps.cosine, cosine},
	}
}

// check compares an answer with the steps, to the unit, and with the true numbers.
func (c angleCase) check(t *testing.T, p int64, x impl.Span) {
	t.Helper()
	what := fmt.Sprintf("%s with %d of %v", c.name, p, x)
	got := c.run(p, x)
	want, code := c.told(steps(p), endsOfSpan(x))
	if code != impl.OK {
		checkSpanCode(t, what, got, code)
		return
	}
	checkSpan(t, what, got, want.low, want.high)
	for _, n := range wholesIn(x) {
		checkHolds(t, what, p, got, c.truth(p, n))
	}
}

// numberTo throws a number of units that is at most so far from 0.
func (d *dice) numberTo(far *big.Int) *big.Int {
	room := new(big.Int).Add(new(big.Int).Lsh(far, 1), big.NewInt(1))
	n := numberOf(d.natural(len(limbsOf(room)) + 1))
	return n.Sub(n.Mod(n, room), far)
}

// spanTo throws a span whose ends are at most so far from 0.
func (d *dice) spanTo(far *big.Int) impl.Span {
	low, high := leastAndGreatest(d.numberTo(far), d.numberTo(far))
	return spanOf(low, high)
}

// spansTo are spans of one number, about 0 and on one side of it, whose ends are up to n away from 0.
func spansTo(p int64, n int64) []impl.Span {
	far, part := twoTo(p, 0), twoTo(p, 0)
	far.Mul(far, big.NewInt(n))
	part.Quo(product(part, big.NewInt(n)), big.NewInt(3))
	list := spansOf(bothSigns(big.NewInt(1), part, new(big.Int).Sub(far, big.NewInt(1)), far))
	d := dice(20 + n)
	for range 12 {
		x := d.numberTo(far)
		list = append(list, d.spanTo(far), spanOf(x, x))
	}
	for range 4 {
		x := d.numberTo(new(big.Int).Sub(far, big.NewInt(100)))
		list = append(list, spanOf(x, new(big.Int).Add(x, big.NewInt(int64(1+d.below(100))))))
	}
	return list
}

func TestPromise5Steps(t *testing.T) {
	for _, c := range angleCases() {
		for _, p := range precisions {
			for _, x := range spansTo(p, c.bound) {
				c.check(t, p, x)
			}
		}
	}
}

// An end may be just so far from 0, but not a unit farther, at Low and at High, above 0 and below.
func TestPromise5Bounds(t *testing.T) {
	for _, c := range angleCases() {
		for _, p := range precisions {
			just := product(twoTo(p, 0), big.NewInt(c.bound))
			over := new(big.Int).Add(just, big.NewInt(1))
			under := new(big.Int).Sub(just, big.NewInt(1))
			zero, great := new(big.Int), twoTo(320, -1)
			for _, x := range []impl.Span{spanOf(just, just), spanOf(negative(just), negative(just)), spanOf(negative(just), just), spanOf(zero, just), spanOf(negative(just), zero), spanOf(under, just), spanOf(negative(just), negative(under))} {
				if got := c.run(p, x); got.Code != impl.OK {
					t.Errorf("%s with %d of %v: got the code %d", c.name, p, x, got.Code)
				}
			}
			for _, far := range []*big.Int{over, new(big.Int).Lsh(just, 1), great} {
				below := negative(far)
				for _, x := range []impl.Span{spanOf(far, far), spanOf(below, below), spanOf(below, far), spanOf(zero, far), spanOf(below, zero), spanOf(just, far), spanOf(below, negative(just)), spanOf(negative(just), far), spanOf(below, just)} {
					checkSpanCode(t, fmt.Sprintf("%s with %d of %v", c.name, p, x), c.run(p, x), impl.ErrRange)
				}
			}
		}
	}
	if impl.SinTerms != 40 {
		t.Error("SinTerms")
	}
}

// Of 0 all is known.
func TestPromise5Zero(t *testing.T) {
	zero := new(big.Int)
	for _, p := range precisions {
		x, unit := impl.Span{}, twoTo(p, 0)
		checkSpan(t, "ArcSeries of 0", impl.ArcSeries(p, x), zero, zero)
		checkSpan(t, "AtanSpan of 0", impl.AtanSpan(p, x), zero, zero)
		checkSpan(t, "SinSpan of 0", impl.SinSpan(p, x), zero, zero)
		checkSpan(t, "CosSpan of 0", impl.CosSpan(p, x), unit, unit)
		checkSpan(t, "HalfTurn of 0 and a unit", impl.HalfTurn(p, x, smallSpan(1, 1)), zero, zero)
		checkSpan(t, "OneSpan", impl.OneSpan(p), unit, unit)
		pi := steps(p).pi()
		checkSpan(t, "HalfTurn of a unit and 0", impl.HalfTurn(p, smallSpan(1, 1), x), pi.low, pi.high)
	}
}

func TestPromise5Pi(t *testing.T) {
	for _, p := range precisions {
		pi := steps(p).pi()
		checkSpan(t, "PiSpan", impl.PiSpan(p), pi.low, pi.high)
		checkHolds(t, "PiSpan", p, impl.PiSpan(p), truePi())
		checkNarrow(t, "PiSpan", impl.PiSpan(p), 600)
	}
	for _, p := range noPrecisions() {
		checkSpanCode(t, "OneSpan", impl.OneSpan(p), impl.ErrRange)
		checkSpanCode(t, "PiSpan", impl.PiSpan(p), impl.ErrRange)
	}
}

// knownEnds are what a function answers, in digits.
type knownEnds struct {
	what string
	got  impl.SpanResult
	low  string
	high string
}

// These ends were reckoned once by hand-written steps in another language.
func TestPromise5Known(t *testing.T) {
	cases := []knownEnds{
		{"pi", impl.PiSpan(48), "884279719003408", "884279719003708"},
		{"pi", impl.PiSpan(72), "14835751850141947580988", "14835751850141947581408"},
		{"pi", impl.PiSpan(96), "248902613312231085230521944368", "248902613312231085230521944908"},
		{"the series of 1", impl.ArcSeries(48, wholeSpan(48, 1, 1)), "-55000015814434", "507949937606890"},
		{"the series of 1", impl.ArcSeries(72, wholeSpan(72, 1, 1)), "-951335002233548290285", "8493397963505742137125"},
		{"the series of -1 to 1", impl.ArcSeries(48, wholeSpan(48, -1, 1)), "-918833639233866", "918833639233866"},
		{"the series of -1 to 1", impl.ArcSeries(96, wholeSpan(96, -1, 1)), "-284526256917128267002622874855", "284526256917128267002622874855"},
		{"the angle of 1", impl.AtanSpan(48, wholeSpan(48, 1, 1)), "221069929750832", "221069929750952"},
		{"the angle of 1", impl.AtanSpan(96, wholeSpan(96, 1, 1)), "62225653328057771307630486048", "62225653328057771307630486280"},
		{"the angle of -2 to 2", impl.AtanSpan(72, wholeSpan(72, -2, 2)), "-5228361996462916552504", "5228361996462916552504"},
		{"the sine of 1", impl.SinSpan(48, wholeSpan(48, 1, 1)), "236853025851475", "236853025851517"},
		{"the sine of 7", impl.SinSpan(96, wholeSpan(96, 7, 7)), "52051841012985992495759630451", "52051841012985992495759630509"},
		{"the sine of 1 to 2", impl.SinSpan(72, wholeSpan(72, 1, 2)), "-748632107905522327372", "8696100857833768100062"},
		{"the cosine of 1", impl.CosSpan(72, wholeSpan(72, 1, 1)), "2551505499848886227374", "2551505499848886227415"},
		{"the cosine of -7", impl.CosSpan(48, wholeSpan(48, -7, -7)), "212204619483368", "212204619483418"},
		{"the cosine of -1 to 0", impl.CosSpan(96, wholeSpan(96, -1, 0)), "-36421003618111605997125079676", "122035321410417069189962821037"},
		{"twice that of 1 and 1", impl.HalfTurn(48, wholeSpan(48, 1, 1), wholeSpan(48, 1, 1)), "442139859501664", "442139859501904"},
		{"twice that of 2 and 1", impl.HalfTurn(72, wholeSpan(72, 2, 2), wholeSpan(72, 1, 1)), "10456723992925833104656", "10456723992925833105008"},
		{"twice that of 1 and 2", impl.HalfTurn(96, wholeSpan(96, 1, 1), wholeSpan(96, 2, 2)), "73467896230531911251287885072", "73467896230531911251287885520"},
		{"twice that of 3 and 1", impl.HalfTurn(96, wholeSpan(96, 3, 3), wholeSpan(96, 1, 1)), "197919202886647453866548857120", "197919202886647453866548858092"},
	}
	checkKnown(t, cases)
}

func checkKnown(t *testing.T, cases []knownEnds) {
	t.Helper()
	for _, c := range cases {
		low, _ := new(big.Int).SetString(c.low, 10)
		high, _ := new(big.Int).SetString(c.high, 10)
		checkSpan(t, c.what, c.got, low, high)
	}
}

// checkHalfTurn compares an answer with the steps, to the unit, and with twice the true angles.
func checkHalfTurn(t *testing.T, p int64, y impl.Span, x impl.Span) {
	t.Helper()
	what := fmt.Sprintf("HalfTurn with %d of %v and %v", p, y, x)
	got := impl.HalfTurn(p, y, x)
	want, code := steps(p).halfTurn(endsOfSpan(y), endsOfSpan(x))
	if code != impl.OK {
		checkSpanCode(t, what, got, code)
		return
	}
	checkSpan(t, what, got, want.low, want.high)
	for _, above := range wholesIn(y) {
		for _, beside := range wholesIn(x) {
			if above.Sign() >= 0 && beside.Sign() >= 0 && above.Sign()+beside.Sign() > 0 {
				angle := trueAtan(above, beside)
				checkHolds(t, what, p, got, angle.Lsh(angle, 1))
			}
		}
	}
}

// turnCase is the four ends of y and x, in halves of one and units more, and the code of them.
type turnCase struct {
	what                       string
	yLow, yHigh, xLow, xHigh   int64
	yLow1, yHigh1, xLow1, xHi1 int64
	code                       int64
}

func turnCases() []turnCase {
	return []turnCase{
		{"the High of y just twice the Low of x", 0, 4, 2, 9, 0, 0, 0, 0, impl.OK},
		{"so, of numbers alone", 4, 4, 2, 2, 0, 0, 0, 0, impl.OK},
		{"so, of odd units", 1, 4, 2, 2, 0, 2, 1, 1, impl.OK},
		{"a unit more, and the High of x just twice the Low of y", 2, 4, 2, 4, 0, 1, 0, 0, impl.OK},
		{"both a unit more", 2, 4, 2, 4, 0, 1, 0, 1, impl.ErrZero},
		{"a unit more, and the Low of y is 0", 0, 4, 2, 2, 0, 1, 0, 0, impl.ErrZero},
		{"a unit more, and the Low of y is below 0", -3, 4, 2, 2, 0, 1, 0, 0, impl.ErrZero},
		{"the High of y far more, and x far less", 8, 99, 0, 1, 0, 0, 1, 0, impl.OK},
		{"the High of x just twice the Low of y, and the Low of x is 0", 2, 2, 0, 4, 0, 0, 0, 0, impl.OK},
		{"so, and the Low of x is below 0", 2, 9, -7, 4, 0, 0, 0, 0, impl.OK},
		{"the High of x a unit more, and the Low of x is 0", 2, 2, 0, 4, 0, 0, 0, 1, impl.ErrZero},
		{"so, and the Low of x is below 0", 2, 9, -7, 4, 0, 0, 0, 1, impl.ErrZero},
		{"the Low of y below 0", -5, 4, 2, 9, 0, 0, 0, 0, impl.OK},
		{"the Low of y a unit below 0", 0, 4, 2, 9, -1, 0, 0, 0, impl.OK},
		{"the Low of x a unit above 0", 1, 1, 0, 2, 0, 0, 1, 0, impl.OK},
		{"both Lows below 0", -5, 4, -2, 9, 0, 0, 0, 0, impl.ErrZero},
		{"both 0", 0, 0, 0, 0, 0, 0, 0, 0, impl.ErrZero},
		{"both from below 0 to 0", -1, 0, -1, 0, 0, 0, 0, 0, impl.ErrZero},
		{"y from below 0 to 0", -1, 0, 2, 9, 0, 0, 0, 0, impl.OK},
		{"x from below 0 to 0", 2, 9, -1, 0, 0, 0, 0, 0, impl.OK},
		{"y 0, and the Low of x 0", 0, 0, 0, 2, 0, 0, 0, 0, impl.ErrZero},
		{"the Low of y 0, and x 0", 0, 2, 0, 0, 0, 0, 0, 0, impl.ErrZero},
		{"the High of y a unit below 0", -4, 0, 2, 2, 0, -1, 0, 0, impl.ErrRange},
		{"the High of x a unit below 0", 2, 2, -4, 0, 0, 0, 0, -1, impl.ErrRange},
		{"both Highs below 0", -4, -2, -4, -2, 0, 0, 0, 0, impl.ErrRange},
		{"the High of y below 0, and x 0", -4, -2, 0, 0, 0, 0, 0, 0, impl.ErrRange},
		{"the High of x below 0, and y 0", 0, 0, -4, -2, 0, 0, 0, 0, impl.ErrRange},
	}
}

func TestPromise5HalfTurns(t *testing.T) {
	for _, p := range precisions {
		end := func(halves int64, more int64) *big.Int {
			n := product(twoTo(p-1, 0), big.NewInt(halves))
			return n.Add(n, big.NewInt(more))
		}
		for _, c := range turnCases() {
			y := spanOf(end(c.yLow, c.yLow1), end(c.yHigh, c.yHigh1))
			x := spanOf(end(c.xLow, c.xLow1), end(c.xHigh, c.xHi1))
			if got := impl.HalfTurn(p, y, x); got.Code != c.code {
				t.Errorf("HalfTurn with %d, %s: got the code %d, want %d", p, c.what, got.Code, c.code)
			}
			checkHalfTurn(t, p, y, x)
		}
	}
}

// Ends of all sizes: what is divided is 2 at most, however great both are.
func TestPromise5HalfTurnSizes(t *testing.T) {
	great, half := twoTo(320, -1), twoTo(319, 0)
	least := new(big.Int).Sub(half, big.NewInt(1))
	d := dice(31)
	for _, p := range precisions {
		for _, pair := range [][2]impl.Span{
			{spanOf(great, great), spanOf(half, great)}, {spanOf(great, great), spanOf(least, great)}, {spanOf(half, great), spanOf(least, great)}, {spanOf(least, great), spanOf(least, great)},
			{spanOf(great, great), smallSpan(0, 0)}, {smallSpan(0, 0), spanOf(great, great)}, {smallSpan(1, 1), spanOf(great, great)}, {spanOf(great, great), smallSpan(1, 1)},
			{spanOf(negative(great), great), spanOf(great, great)}, {spanOf(great, great), spanOf(negative(great), great)}, {spanOf(negative(great), great), spanOf(negative(great), great)},
			{smallSpan(1, 1), smallSpan(1, 1)}, {smallSpan(2, 2), smallSpan(1, 1)}, {smallSpan(1, 2), smallSpan(1, 2)}, {smallSpan(1, 3), smallSpan(1, 2)}, {smallSpan(1, 3), smallSpan(1, 3)},
		} {
			checkHalfTurn(t, p, pair[0], pair[1])
		}
		for i := range 30 {
			far := twoTo(p-2+int64(i%5), 0)
			x, y := d.numberTo(far), d.numberTo(far)
			x.Abs(x)
			y.Abs(y)
			checkHalfTurn(t, p, spanOf(y, y), spanOf(x, new(big.Int).Add(x, big.NewInt(int64(i)))))
			checkHalfTurn(t, p, d.spanTo(far), d.spanTo(far))
		}
	}
}

// The squares of a sine and a cosine are one together.
func TestPromise5Squares(t *testing.T) {
	for _, p := range precisions {
		one := impl.OneSpan(p).Span
		for _, x := range spansTo(p, 7) {
			sine, cosine := impl.SinSpan(p, x), impl.CosSpan(p, x)
			both := impl.AddSpan(impl.SquareSpan(p, sine.Span).Span, impl.SquareSpan(p, cosine.Span).Span)
			if sine.Code != impl.OK || cosine.Code != impl.OK || both.Code != impl.OK || !impl.IsWithin(one, both.Span) {
				t.Errorf("with %d of %v: the squares are %v together", p, x, both)
			}
			if sameEnds(x.Low, x.High) {
				checkNarrow(t, "a sine", sine, 1000)
				checkNarrow(t, "a cosine", cosine, 1000)
				checkNarrow(t, "both squares", both, 4000)
			}
		}
	}
}

// An angle whose tangent is turned over is what is left of a quarter; below 0 it is what is left of a quarter below 0.
func TestPromise5TurnedOver(t *testing.T) {
	for _, p := range precisions {
		pi, half := impl.PiSpan(p).Span, twoTo(p-1, 0)
		d := dice(41)
		for i := range 40 {
			x := d.numberTo(twoTo(p-2, 0))
			x.Add(x.Abs(x).Lsh(x, 1), half)
			if i == 0 {
				x = half
			}
			tangent := spanOf(x, new(big.Int).Add(x, big.NewInt(int64(i%3))))
			angle := impl.AtanSpan(p, tangent)
			other := impl.AtanSpan(p, impl.DivSpan(p, impl.OneSpan(p).Span, tangent).Span)
			both := impl.AddSpan(angle.Span, other.Span).Span
			if angle.Code != impl.OK || other.Code != impl.OK || impl.MeetSpan(impl.AddSpan(both, both).Span, pi).Code != impl.OK {
				t.Errorf("with %d of %v: got %v and %v", p, tangent, angle, other)
			}
			checkNarrow(t, "an angle", angle, 600)
			checkNarrow(t, "that of the tangent turned over", other, 600)
			below := impl.SubSpan(impl.Span{}, tangent).Span
			turned := impl.SubSpan(impl.Span{}, impl.AtanSpan(p, below).Span)
			if turned.Code != impl.OK || impl.MeetSpan(turned.Span, angle.Span).Code != impl.OK {
				t.Errorf("with %d of %v: got %v below 0", p, below, turned)
			}
		}
	}
}

// Twice an angle, and twice that of the tangent turned over, are half around.
func TestPromise5HalfAround(t *testing.T) {
	d := dice(51)
	for _, p := range precisions {
		pi := impl.PiSpan(p).Span
		for i := range 40 {
			far := twoTo(p+int64(i%4), 0)
			y, x := d.numberTo(far), d.numberTo(far)
			y.Abs(y)
			x.Abs(x)
			a := impl.HalfTurn(p, spanOf(y, y), spanOf(x, x))
			b := impl.HalfTurn(p, spanOf(x, x), spanOf(y, y))
			both := impl.AddSpan(a.Span, b.Span).Span
			if a.Code != impl.OK || b.Code != impl.OK || impl.MeetSpan(both, pi).Code != impl.OK {
				t.Errorf("with %d of %v and %v: got %v and %v", p, y, x, a, b)
			}
			checkNarrow(t, "a half turn", a, 2000)
		}
	}
}
