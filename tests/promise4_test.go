package tests

import (
	"math/big"
	"slices"
	"testing"

	"loop.example/g00742/impl"
)

// checkSpan compares an answer with the ends it has to have, or with ErrFull, if one of them has more than 20 limbs.
func checkSpan(t *testing.T, what string, got impl.SpanResult, low *big.Int, high *big.Int) {
	t.Helper()
	want := spanOf(low, high)
	if len(want.Low.Limbs) > 20 || len(want.High.Limbs) > 20 {
		checkSpanCode(t, what, got, impl.ErrFull)
		return
	}
	if got.Code != impl.OK || !sameEnds(got.Span.Low, want.Low) || !sameEnds(got.Span.High, want.High) {
		t.Errorf("%s: got %v, want %v", what, got, want)
	}
}

func sameEnds(a impl.Big, b impl.Big) bool {
	return a.Neg == b.Neg && slices.Equal(a.Limbs, b.Limbs)
}

func checkSpanCode(t *testing.T, what string, got impl.SpanResult, code int64) {
	t.Helper()
	if got.Code != code || !sameEnds(got.Span.Low, impl.Big{}) || !sameEnds(got.Span.High, impl.Big{}) {
		t.Errorf("%s: got %v, want the code %d alone", what, got, code)
	}
}

// leastAndGreatest of these numbers.
func leastAndGreatest(list ...*big.Int) (*big.Int, *big.Int) {
	compare := func(x, y *big.Int) int { return x.Cmp(y) }
	return slices.MinFunc(list, compare), slices.MaxFunc(list, compare)
}

// roundedUp is x divided by y, rounded up.
func roundedUp(x *big.Int, y *big.Int) *big.Int {
	return negative(roundedDown(negative(x), y))
}

func product(x *big.Int, y *big.Int) *big.Int {
	return new(big.Int).Mul(x, y)
}

// endsOf are Low and High, reckoned without the program.
func endsOf(a impl.Span) (*big.Int, *big.Int) {
	return intOf(a.Low), intOf(a.High)
}

// checkSum compares AddSpan and SubSpan with what they have to be.
func checkSum(t *testing.T, a impl.Span, b impl.Span) {
	t.Helper()
	aLow, aHigh := endsOf(a)
	bLow, bHigh := endsOf(b)
	checkSpan(t, "AddSpan", impl.AddSpan(a, b), new(big.Int).Add(aLow, bLow), new(big.Int).Add(aHigh, bHigh))
	checkSpan(t, "SubSpan", impl.SubSpan(a, b), new(big.Int).Sub(aLow, bHigh), new(big.Int).Sub(aHigh, bLow))
}

// checkProduct compares MulSpan and DivSpan with the least and the greatest one of all pairs of ends.
func checkProduct(t *testing.T, p int64, a impl.Span, b impl.Span) {
	t.Helper()
	aLow, aHigh := endsOf(a)
	bLow, bHigh := endsOf(b)
	one := twoTo(p, 0)
	least, greatest := leastAndGreatest(product(aLow, bLow), product(aLow, bHigh), product(aHigh, bLow), product(aHigh, bHigh))
	checkSpan(t, "MulSpan", impl.MulSpan(p, a, b), roundedDown(least, one), roundedUp(greatest, one))
	if bLow.Sign() <= 0 && bHigh.Sign() >= 0 {
		checkSpanCode(t, "DivSpan", impl.DivSpan(p, a, b), impl.ErrZero)
		return
	}
	aLow, aHigh = product(aLow, one), product(aHigh, one)
	low, _ := leastAndGreatest(roundedDown(aLow, bLow), roundedDown(aLow, bHigh), roundedDown(aHigh, bLow), roundedDown(aHigh, bHigh))
	_, high := leastAndGreatest(roundedUp(aLow, bLow), roundedUp(aLow, bHigh), roundedUp(aHigh, bLow), roundedUp(aHigh, bHigh))
	checkSpan(t, "DivSpan", impl.DivSpan(p, a, b), low, high)
}

// checkPlaces compares what is told of where two spans lie with how their ends compare.
func checkPlaces(t *testing.T, a impl.Span, b impl.Span) {
	t.Helper()
	aLow, aHigh := endsOf(a)
	bLow, bHigh := endsOf(b)
	lower, higher := leastAndGreatest(aLow, bLow)
	lowerHigh, higherHigh := leastAndGreatest(aHigh, bHigh)
	checkSpan(t, "HullSpan", impl.HullSpan(a, b), lower, higherHigh)
	if higher.Cmp(lowerHigh) > 0 {
		checkSpanCode(t, "MeetSpan", impl.MeetSpan(a, b), impl.ErrNone)
	} else {
		checkSpan(t, "MeetSpan", impl.MeetSpan(a, b), higher, lowerHigh)
	}
	order := int64(0)
	if aHigh.Cmp(bLow) < 0 {
		order = -1
	} else if bHigh.Cmp(aLow) < 0 {
		order = 1
	}
	if got := impl.OrderSpan(a, b); got != order {
		t.Errorf("OrderSpan of %v and %v: got %d", a, b, got)
	}
	if got := impl.IsWithin(a, b); got != (bLow.Cmp(aLow) <= 0 && aHigh.Cmp(bHigh) <= 0) {
		t.Errorf("IsWithin of %v and %v: got %v", a, b, got)
	}
}

// checkPower compares SquareSpan and RootSpan with what they have to be.
func checkPower(t *testing.T, p int64, a impl.Span) {
	t.Helper()
	low, high := endsOf(a)
	one := twoTo(p, 0)
	least, greatest := leastAndGreatest(product(low, low), product(high, high))
	if low.Sign() <= 0 && high.Sign() >= 0 {
		least = new(big.Int)
	}
	checkSpan(t, "SquareSpan", impl.SquareSpan(p, a), roundedDown(least, one), roundedUp(greatest, one))
	if high.Sign() < 0 {
		checkSpanCode(t, "RootSpan", impl.RootSpan(p, a), impl.ErrRange)
		return
	}
	if low.Sign() < 0 {
		low = new(big.Int)
	}
	high = product(high, one)
	above := new(big.Int).Sqrt(high)
	if product(above, above).Cmp(high) < 0 {
		above.Add(above, big.NewInt(1))
	}
	checkSpan(t, "RootSpan", impl.RootSpan(p, a), new(big.Int).Sqrt(product(low, one)), above)
}

// checkSpanPair compares all that is told of two spans.
func checkSpanPair(t *testing.T, p int64, a impl.Span, b impl.Span) {
	t.Helper()
	checkSum(t, a, b)
	checkProduct(t, p, a, b)
	checkPlaces(t, a, b)
}

func TestPromise4NearPairs(t *testing.T) {
	for _, p := range precisions {
		list := spansOf(nearEnds(p))
		for _, a := range list {
			for _, b := range list {
				checkSpanPair(t, p, a, b)
			}
		}
	}
}

func TestPromise4EdgePairs(t *testing.T) {
	d := dice(7)
	for _, p := range precisions {
		list := spansOf(edgeEnds(p))
		for _, a := range list {
			for range 8 {
				checkSpanPair(t, p, a, list[d.below(len(list))])
			}
		}
		for _, x := range edgeEnds(p) {
			for _, y := range edgeEnds(p) {
				checkSpanPair(t, p, spanOf(x, x), spanOf(y, y))
			}
		}
	}
}

func TestPromise4ThrownPairs(t *testing.T) {
	d := dice(8)
	for _, p := range precisions {
		for range 1500 {
			checkSpanPair(t, p, d.span(20), d.span(20))
			checkSpanPair(t, p, d.span(10), d.span(10))
			checkSpanPair(t, p, d.span(20), d.span(6))
			checkSpanPair(t, p, d.span(3), d.span(4))
		}
	}
}

func TestPromise4SquaresAndRoots(t *testing.T) {
	d := dice(9)
	for _, p := range precisions {
		list := append(spansOf(edgeEnds(p)), spansOf(nearEnds(p))...)
		for i := range 1500 {
			list = append(list, d.span(i%21))
		}
		for _, a := range list {
			checkPower(t, p, a)
		}
	}
}

// A root that needs no rounding, and its neighbours, which do.
func TestPromise4EvenRoots(t *testing.T) {
	d := dice(10)
	for _, p := range precisions {
		for i := range 500 {
			root := product(numberOf(d.natural(i%6)), twoTo(p/2, 0))
			n := new(big.Int).Rsh(product(root, root), uint(p))
			for _, plus := range []int64{-1, 0, 1} {
				end := new(big.Int).Add(n, big.NewInt(plus))
				checkPower(t, p, spanOf(end, end))
			}
			checkSpan(t, "RootSpan of a square", impl.RootSpan(p, spanOf(n, n)), root, root)
		}
	}
}

// checkRat compares RatSpan with the quotient in units.
func checkRat(t *testing.T, p int64, num *big.Int, den *big.Int) {
	t.Helper()
	got := impl.RatSpan(p, bigOf(num), bigOf(den))
	if den.Sign() == 0 {
		checkSpanCode(t, "RatSpan", got, impl.ErrZero)
		return
	}
	units := product(num, twoTo(p, 0))
	checkSpan(t, "RatSpan", got, roundedDown(units, den), roundedUp(units, den))
}

func TestPromise4Rats(t *testing.T) {
	d := dice(12)
	for _, p := range precisions {
		list := append(edgeEnds(p), nearEnds(p)...)
		for n := int64(-12); n <= 12; n++ {
			list = append(list, big.NewInt(n))
		}
		for range 60 {
			list = append(list, intOf(d.big(d.below(21))))
		}
		for _, num := range list {
			for _, den := range list {
				checkRat(t, p, num, den)
			}
		}
	}
}

func TestPromise4Examples(t *testing.T) {
	third, half := big.NewInt(93824992236885), twoTo(47, 0)
	thirdUp := new(big.Int).Add(third, big.NewInt(1))
	checkSpan(t, "1 and 3", impl.RatSpan(48, impl.BigOf(1), impl.BigOf(3)), third, thirdUp)
	checkSpan(t, "-1 and -3", impl.RatSpan(48, impl.BigOf(-1), impl.BigOf(-3)), third, thirdUp)
	root := impl.RootSpan(48, impl.RatSpan(48, impl.BigOf(1), impl.BigOf(3)).Span)
	checkSpan(t, "the root of a third", root, big.NewInt(162509653574040), big.NewInt(162509653574042))
	less, lessUp := negative(thirdUp), negative(third)
	checkSpan(t, "-1 and 3", impl.RatSpan(48, impl.BigOf(-1), impl.BigOf(3)), less, lessUp)
	checkSpan(t, "1 and -3", impl.RatSpan(48, impl.BigOf(1), impl.BigOf(-3)), less, lessUp)
	checkSpan(t, "1 and 2", impl.RatSpan(48, impl.BigOf(1), impl.BigOf(2)), half, half)
	checkSpan(t, "0 and -2", impl.RatSpan(48, impl.BigOf(0), impl.BigOf(-2)), new(big.Int), new(big.Int))
	for _, p := range precisions {
		third := new(big.Int).Quo(twoTo(p, 0), big.NewInt(3))
		checkSpan(t, "1 and 3", impl.RatSpan(p, impl.BigOf(1), impl.BigOf(3)), third, new(big.Int).Add(third, big.NewInt(1)))
	}
}

// wholeSpan is the span from low to high times 2 to the power of p.
func wholeSpan(p int64, low int64, high int64) impl.Span {
	one := twoTo(p, 0)
	return spanOf(product(big.NewInt(low), one), product(big.NewInt(high), one))
}

// pairCase is two spans, and the ends that come of them.
type pairCase struct{ aLow, aHigh, bLow, bHigh, low, high int64 }

func TestPromise4ProductsByHand(t *testing.T) {
	cases := []pairCase{
		{2, 3, 5, 7, 10, 21}, {-3, -2, 5, 7, -21, -10}, {2, 3, -7, -5, -21, -10}, {-3, -2, -7, -5, 10, 21},
		{-2, 3, 5, 7, -14, 21}, {-2, 3, -7, -5, -21, 14}, {5, 7, -2, 3, -14, 21}, {-7, -5, -2, 3, -21, 14},
		{-2, 3, -5, 7, -15, 21}, {-2, 3, -7, 5, -21, 15}, {-3, 2, -5, 7, -21, 15}, {-3, 2, -7, 5, -15, 21},
		{0, 3, 5, 7, 0, 21}, {-3, 0, 5, 7, -21, 0}, {0, 3, -7, -5, -21, 0}, {-3, 0, -7, -5, 0, 21},
		{0, 3, 0, 7, 0, 21}, {0, 3, -7, 0, -21, 0}, {-3, 0, -7, 0, 0, 21}, {0, 3, -5, 7, -15, 21}, {-3, 0, -5, 7, -21, 15},
		{0, 0, -5, 7, 0, 0}, {2, 2, 3, 3, 6, 6}, {-2, -2, 3, 3, -6, -6},
	}
	for _, c := range cases {
		for _, p := range precisions {
			one := twoTo(p, 0)
			low, high := product(big.NewInt(c.low), one), product(big.NewInt(c.high), one)
			a, b := wholeSpan(p, c.aLow, c.aHigh), wholeSpan(p, c.bLow, c.bHigh)
			checkSpan(t, "MulSpan by hand", impl.MulSpan(p, a, b), low, high)
			// Ends that are not whole are rounded away from each other.
			a, b = smallSpan(c.aLow, c.aHigh), smallSpan(c.bLow, c.bHigh)
			checkSpan(t, "MulSpan of units", impl.MulSpan(p, a, b), big.NewInt(min(0, max(-1, c.low))), big.NewInt(max(0, min(1, c.high))))
		}
	}
}

func TestPromise4QuotientsByHand(t *testing.T) {
	cases := []pairCase{
		{12, 24, 2, 3, 4, 12}, {-24, -12, 2, 3, -12, -4}, {12, 24, -3, -2, -12, -4}, {-24, -12, -3, -2, 4, 12},
		{-6, 12, 2, 3, -3, 6}, {-6, 12, -3, -2, -6, 3}, {0, 12, 2, 3, 0, 6}, {-12, 0, 2, 3, -6, 0}, {0, 12, -3, -2, -6, 0}, {-12, 0, -3, -2, 0, 6},
		{0, 0, 2, 3, 0, 0}, {0, 0, -3, -2, 0, 0}, {6, 6, 2, 2, 3, 3}, {6, 6, -2, -2, -3, -3}, {-6, -6, 2, 2, -3, -3}, {-6, -6, -2, -2, 3, 3},
	}
	for _, c := range cases {
		for _, p := range precisions {
			one := twoTo(p, 0)
			low, high := product(big.NewInt(c.low), one), product(big.NewInt(c.high), one)
			a, b := wholeSpan(p, c.aLow, c.aHigh), wholeSpan(p, c.bLow, c.bHigh)
			checkSpan(t, "DivSpan by hand", impl.DivSpan(p, a, b), low, high)
			// So many units divided by so many units are the same whole numbers.
			checkSpan(t, "DivSpan of units", impl.DivSpan(p, smallSpan(c.aLow, c.aHigh), smallSpan(c.bLow, c.bHigh)), low, high)
			// And units divided by far more are less than a unit, rounded away from each other.
			b = wholeSpan(p, 100*c.bLow, 100*c.bHigh)
			checkSpan(t, "units by hundreds", impl.DivSpan(p, smallSpan(c.aLow, c.aHigh), b), big.NewInt(min(0, max(-1, c.low))), big.NewInt(max(0, min(1, c.high))))
		}
	}
	for _, b := range []impl.Span{smallSpan(0, 0), smallSpan(0, 1), smallSpan(-1, 0), smallSpan(-1, 1), wholeSpan(96, 0, 3), wholeSpan(96, -3, 0), {}} {
		for _, p := range precisions {
			checkSpanCode(t, "DivSpan by a span with 0", impl.DivSpan(p, smallSpan(2, 3), b), impl.ErrZero)
			checkSpanCode(t, "DivSpan of 0 by a span with 0", impl.DivSpan(p, smallSpan(0, 0), b), impl.ErrZero)
		}
	}
	for _, p := range precisions {
		checkSpan(t, "next to 0", impl.DivSpan(p, smallSpan(1, 1), smallSpan(1, 2)), twoTo(p-1, 0), twoTo(p, 0))
		checkSpan(t, "next to 0, below", impl.DivSpan(p, smallSpan(1, 1), smallSpan(-2, -1)), negative(twoTo(p, 0)), negative(twoTo(p-1, 0)))
	}
}

func TestPromise4SquaresByHand(t *testing.T) {
	for _, p := range precisions {
		one := twoTo(p, 0)
		cases := [][4]int64{
			{2, 3, 4, 9}, {-3, -2, 4, 9}, {-2, 3, 0, 9}, {-3, 2, 0, 9}, {0, 3, 0, 9}, {-3, 0, 0, 9}, {0, 0, 0, 0}, {3, 3, 9, 9}, {-3, -3, 9, 9}, {-3, 3, 0, 9},
		}
		for _, c := range cases {
			checkSpan(t, "SquareSpan by hand", impl.SquareSpan(p, wholeSpan(p, c[0], c[1])), product(big.NewInt(c[2]), one), product(big.NewInt(c[3]), one))
		}
		checkSpan(t, "a square of units", impl.SquareSpan(p, smallSpan(1, 2)), big.NewInt(0), big.NewInt(1))
		checkSpan(t, "a square of units below 0", impl.SquareSpan(p, smallSpan(-2, -1)), big.NewInt(0), big.NewInt(1))
		checkSpan(t, "a square of one and a unit", impl.SquareSpan(p, spanOf(twoTo(p, 1), twoTo(p, 1))), twoTo(p, 2), twoTo(p, 3))
	}
}

func TestPromise4RootsByHand(t *testing.T) {
	for _, p := range precisions {
		one, zero := twoTo(p, 0), new(big.Int)
		cases := [][4]int64{{4, 9, 2, 3}, {0, 9, 0, 3}, {-5, 9, 0, 3}, {-5, 0, 0, 0}, {0, 0, 0, 0}, {4, 4, 2, 2}}
		for _, c := range cases {
			checkSpan(t, "RootSpan by hand", impl.RootSpan(p, wholeSpan(p, c[0], c[1])), product(big.NewInt(c[2]), one), product(big.NewInt(c[3]), one))
		}
		checkSpan(t, "a root of a unit", impl.RootSpan(p, smallSpan(1, 1)), twoTo(p/2, 0), twoTo(p/2, 0))
		checkSpan(t, "a root of just below one", impl.RootSpan(p, spanOf(twoTo(p, -1), twoTo(p, -1))), twoTo(p, -1), one)
		checkSpan(t, "a root of just above one", impl.RootSpan(p, spanOf(twoTo(p, 1), twoTo(p, 1))), one, twoTo(p, 1))
		checkSpan(t, "a root of -1 to 1 unit", impl.RootSpan(p, smallSpan(-1, 1)), zero, twoTo(p/2, 0))
		for _, a := range []impl.Span{smallSpan(-1, -1), smallSpan(-2, -1), wholeSpan(p, -9, -4), spanOf(negative(twoTo(320, -1)), big.NewInt(-1))} {
			checkSpanCode(t, "RootSpan below 0", impl.RootSpan(p, a), impl.ErrRange)
		}
	}
}

func TestPromise4PlacesByHand(t *testing.T) {
	cases := []struct {
		pairCase
		meets        bool
		order        int64
		aInB, bInA   bool
		hull, hullTo int64
	}{
		{pairCase{1, 5, 3, 6, 3, 5}, true, 0, false, false, 1, 6},
		{pairCase{1, 3, 3, 6, 3, 3}, true, 0, false, false, 1, 6},
		{pairCase{1, 2, 3, 6, 0, 0}, false, -1, false, false, 1, 6},
		{pairCase{3, 6, 1, 2, 0, 0}, false, 1, false, false, 1, 6},
		{pairCase{3, 6, 1, 3, 3, 3}, true, 0, false, false, 1, 6},
		{pairCase{2, 3, 1, 6, 2, 3}, true, 0, true, false, 1, 6},
		{pairCase{1, 6, 2, 3, 2, 3}, true, 0, false, true, 1, 6},
		{pairCase{1, 3, 1, 6, 1, 3}, true, 0, true, false, 1, 6},
		{pairCase{4, 6, 1, 6, 4, 6}, true, 0, true, false, 1, 6},
		{pairCase{1, 6, 1, 6, 1, 6}, true, 0, true, true, 1, 6},
		{pairCase{-6, -3, -5, -1, -5, -3}, true, 0, false, false, -6, -1},
		{pairCase{-6, -3, -2, -1, 0, 0}, false, -1, false, false, -6, -1},
		{pairCase{-6, 0, 0, 4, 0, 0}, true, 0, false, false, -6, 4},
		{pairCase{-6, -1, 1, 4, 0, 0}, false, -1, false, false, -6, 4},
		{pairCase{7, 7, 7, 7, 7, 7}, true, 0, true, true, 7, 7},
		{pairCase{7, 7, 8, 8, 0, 0}, false, -1, false, false, 7, 8},
	}
	for _, c := range cases {
		a, b := smallSpan(c.aLow, c.aHigh), smallSpan(c.bLow, c.bHigh)
		if c.meets {
			checkSpan(t, "MeetSpan by hand", impl.MeetSpan(a, b), big.NewInt(c.low), big.NewInt(c.high))
		} else {
			checkSpanCode(t, "MeetSpan by hand", impl.MeetSpan(a, b), impl.ErrNone)
		}
		checkSpan(t, "HullSpan by hand", impl.HullSpan(a, b), big.NewInt(c.hull), big.NewInt(c.hullTo))
		if impl.OrderSpan(a, b) != c.order || impl.IsWithin(a, b) != c.aInB || impl.IsWithin(b, a) != c.bInA {
			t.Errorf("%v and %v: got the order %d, within %v and %v", a, b, impl.OrderSpan(a, b), impl.IsWithin(a, b), impl.IsWithin(b, a))
		}
	}
}

// endCase is what is answered at the greatest ends and just beyond them: whether it is ErrFull.
type endCase struct {
	what string
	got  impl.SpanResult
	full bool
}

func checkEndCases(t *testing.T, cases []endCase) {
	t.Helper()
	for _, c := range cases {
		if c.full {
			checkSpanCode(t, c.what, c.got, impl.ErrFull)
		} else if c.got.Code != impl.OK {
			t.Errorf("%s: got code %d", c.what, c.got.Code)
		}
	}
}

func TestPromise4MaxEndSums(t *testing.T) {
	greatest, least := twoTo(320, -1), negative(twoTo(320, -1))
	zero, all := new(big.Int), spanOf(least, greatest)
	up, down := spanOf(zero, greatest), spanOf(least, zero)
	checkEndCases(t, []endCase{
		{"greatest and 1", impl.AddSpan(up, smallSpan(0, 1)), true},
		{"1 and greatest", impl.AddSpan(smallSpan(1, 1), up), true},
		{"greatest and -1", impl.AddSpan(up, smallSpan(-1, -1)), false},
		{"least and -1", impl.AddSpan(down, smallSpan(-1, 0)), true},
		{"least and 1", impl.AddSpan(down, smallSpan(1, 1)), false},
		{"all and 0", impl.AddSpan(all, smallSpan(0, 0)), false},
		{"all and -1", impl.AddSpan(all, smallSpan(-1, -1)), true},
		{"all and 1", impl.AddSpan(all, smallSpan(1, 1)), true},
		{"all and all", impl.AddSpan(all, all), true},
		{"greatest less -1", impl.SubSpan(up, smallSpan(-1, 0)), true},
		{"greatest less 1", impl.SubSpan(up, smallSpan(0, 1)), false},
		{"least less 1", impl.SubSpan(down, smallSpan(0, 1)), true},
		{"least less -1", impl.SubSpan(down, smallSpan(-1, 0)), false},
		{"1 less least", impl.SubSpan(smallSpan(1, 1), down), true},
		{"greatest less itself", impl.SubSpan(spanOf(greatest, greatest), spanOf(greatest, greatest)), false},
		{"up less up", impl.SubSpan(up, up), false},
		{"up less down", impl.SubSpan(up, down), true},
		{"hull", impl.HullSpan(up, down), false},
		{"meeting", impl.MeetSpan(all, up), false},
	})
}

func TestPromise4MaxEndProducts(t *testing.T) {
	greatest, least := twoTo(320, -1), negative(twoTo(320, -1))
	zero, all := new(big.Int), spanOf(least, greatest)
	for _, p := range precisions {
		k := 160 + p/2
		just, under, over := spanOf(twoTo(k, 0), twoTo(k, 0)), spanOf(twoTo(k, -1), twoTo(k, -1)), spanOf(twoTo(k, 1), twoTo(k, 1))
		overNeg := spanOf(negative(twoTo(k, 1)), zero)
		one, oneMore, oneLess := wholeSpan(p, 1, 1), spanOf(twoTo(p, 1), twoTo(p, 1)), spanOf(twoTo(p, -1), twoTo(p, -1))
		fits, tooFar := spanOf(zero, twoTo(320-p, -1)), spanOf(zero, twoTo(320-p, 0))
		tooFarNeg := spanOf(negative(twoTo(320-p, 0)), zero)
		checkEndCases(t, []endCase{
			{"all times one", impl.MulSpan(p, all, one), false},
			{"all times one and a unit", impl.MulSpan(p, all, oneMore), true},
			{"all times all", impl.MulSpan(p, all, all), true},
			{"all times 0", impl.MulSpan(p, all, smallSpan(0, 0)), false},
			{"a product of 2^320", impl.MulSpan(p, just, just), true},
			{"a product below", impl.MulSpan(p, just, under), false},
			{"a product rounded up to 2^320", impl.MulSpan(p, under, over), true},
			{"a product rounded down to -2^320", impl.MulSpan(p, under, overNeg), true},
			{"a square of 2^320", impl.SquareSpan(p, just), true},
			{"a square below", impl.SquareSpan(p, under), false},
			{"a square of all", impl.SquareSpan(p, all), true},
			{"a square of a Low too far", impl.SquareSpan(p, overNeg), true},
			{"all by one", impl.DivSpan(p, all, one), false},
			{"all by less than one", impl.DivSpan(p, all, oneLess), true},
			{"up by less than one", impl.DivSpan(p, spanOf(zero, greatest), oneLess), true},
			{"down by less than one", impl.DivSpan(p, spanOf(least, zero), oneLess), true},
			{"by a unit", impl.DivSpan(p, fits, smallSpan(1, 1)), false},
			{"by a unit, too far", impl.DivSpan(p, tooFar, smallSpan(1, 1)), true},
			{"by a unit, too far below 0", impl.DivSpan(p, tooFarNeg, smallSpan(1, 2)), true},
			{"by a unit below 0, too far", impl.DivSpan(p, tooFar, smallSpan(-1, -1)), true},
			{"all by all above 0", impl.DivSpan(p, all, spanOf(greatest, greatest)), false},
			{"a root of all", impl.RootSpan(p, all), false},
			{"greatest in units", impl.RatSpan(p, bigOf(greatest), bigOf(twoTo(p, 0))), false},
			{"more than the greatest in units", impl.RatSpan(p, bigOf(greatest), bigOf(twoTo(p, -1))), true},
			{"less than the least in units", impl.RatSpan(p, bigOf(least), bigOf(twoTo(p, -1))), true},
			{"2^320 in units", impl.RatSpan(p, bigOf(twoTo(320-p, 0)), impl.BigOf(1)), true},
			{"-2^320 in units", impl.RatSpan(p, bigOf(twoTo(320-p, 0)), impl.BigOf(-1)), true},
			{"below 2^320 in units", impl.RatSpan(p, bigOf(twoTo(320-p, -1)), impl.BigOf(-1)), false},
			{"1 by the greatest", impl.RatSpan(p, impl.BigOf(1), bigOf(greatest)), false},
		})
	}
}

// inSpan tells that x units are in the span that is answered.
func inSpan(r impl.SpanResult, x *big.Rat) bool {
	low, high := endsOf(r.Span)
	return r.Code == impl.OK && new(big.Rat).SetInt(low).Cmp(x) <= 0 && x.Cmp(new(big.Rat).SetInt(high)) <= 0
}

// numbersIn are both ends of a span and some numbers between them, which are not whole.
func numbersIn(a impl.Span) []*big.Rat {
	low, high := endsOf(a)
	width := new(big.Rat).SetInt(new(big.Int).Sub(high, low))
	var list []*big.Rat
	for _, part := range []int64{0, 1, 3, 6, 7} {
		x := new(big.Rat).Mul(width, big.NewRat(part, 7))
		list = append(list, x.Add(x, new(big.Rat).SetInt(low)))
	}
	if low.Sign() <= 0 && high.Sign() >= 0 {
		list = append(list, new(big.Rat))
	}
	return list
}

// checkNumbers checks that what comes of numbers of both spans is in what comes of the spans.
func checkNumbers(t *testing.T, p int64, a impl.Span, b impl.Span) {
	t.Helper()
	one := new(big.Rat).SetInt(twoTo(p, 0))
	sum, rest, both, parts := impl.AddSpan(a, b), impl.SubSpan(a, b), impl.MulSpan(p, a, b), impl.DivSpan(p, a, b)
	for _, x := range numbersIn(a) {
		square := new(big.Rat).Quo(new(big.Rat).Mul(x, x), one)
		if !inSpan(impl.SquareSpan(p, a), square) {
			t.Errorf("SquareSpan with %d of %v: without the square of %v", p, a, x)
		}
		for _, y := range numbersIn(b) {
			times := new(big.Rat).Mul(x, y)
			if !inSpan(sum, new(big.Rat).Add(x, y)) || !inSpan(rest, new(big.Rat).Sub(x, y)) || !inSpan(both, times.Quo(times, one)) {
				t.Errorf("with %d of %v and %v: without what comes of %v and %v", p, a, b, x, y)
			}
			if parts.Code == impl.OK && !inSpan(parts, new(big.Rat).Mul(new(big.Rat).Quo(x, y), one)) {
				t.Errorf("DivSpan with %d of %v and %v: without %v divided by %v", p, a, b, x, y)
			}
		}
	}
}

// checkBack checks that what is divided comes back by being multiplied, and a root by being squared.
func checkBack(t *testing.T, p int64, a impl.Span, b impl.Span) {
	t.Helper()
	if parts := impl.DivSpan(p, a, b); parts.Code == impl.OK {
		if back := impl.MulSpan(p, parts.Span, b); back.Code != impl.OK || !impl.IsWithin(a, back.Span) {
			t.Errorf("with %d %v divided by %v: came back as %v", p, a, b, back)
		}
	}
	root := impl.RootSpan(p, a)
	if root.Code != impl.OK {
		return
	}
	back := impl.SquareSpan(p, root.Span)
	above := impl.MeetSpan(a, spanOf(new(big.Int), twoTo(320, -1)))
	if back.Code != impl.OK || !impl.IsWithin(above.Span, back.Span) {
		t.Errorf("with %d the root of %v: came back as %v", p, a, back)
	}
}

// checkBoth checks that what is in both is in each, and that what has both has each.
func checkBoth(t *testing.T, a impl.Span, b impl.Span) {
	t.Helper()
	hull, meet := impl.HullSpan(a, b), impl.MeetSpan(a, b)
	if hull.Code != impl.OK || !impl.IsWithin(a, hull.Span) || !impl.IsWithin(b, hull.Span) {
		t.Errorf("HullSpan of %v and %v: got %v", a, b, hull)
	}
	apart := impl.OrderSpan(a, b) != 0
	if apart != (meet.Code == impl.ErrNone) || !apart && (!impl.IsWithin(meet.Span, a) || !impl.IsWithin(meet.Span, b)) {
		t.Errorf("MeetSpan of %v and %v: got %v", a, b, meet)
	}
}

func TestPromise4Numbers(t *testing.T) {
	d := dice(13)
	for _, p := range precisions {
		list := spansOf(nearEnds(p))
		for range 25 {
			list = append(list, d.span(5))
		}
		for _, a := range list {
			for _, b := range list {
				checkNumbers(t, p, a, b)
				checkBack(t, p, a, b)
				checkBoth(t, a, b)
			}
		}
	}
}
