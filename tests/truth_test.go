package tests

import (
	"fmt"
	"math/big"
	"strings"
	"testing"

	"loop.example/g00742/impl"
)

// fine is how many binary places the tests reckon with where they ask for the true number.
const fine = 320

// slack is more than what the rounding of a series with fine places adds up to, also where it is divided by the square of a billionth of a degree, and far less than any unit.
var slack = twoTo(110, 0)

// piDigits are the first digits of the number of the circle.
const piDigits = "3.1415926535897932384626433832795028841971693993751058209749445923078164062862089986280348253421170679"

// truePi is that number, in fine places.
func truePi() *big.Int {
	digits, ok := new(big.Int).SetString(strings.Replace(piDigits, ".", "", 1), 10)
	if !ok {
		panic("no digits")
	}
	places := int64(len(piDigits) - 2)
	return digits.Quo(digits.Lsh(digits, fine), new(big.Int).Exp(big.NewInt(10), big.NewInt(places), nil))
}

// finely is x units, told in fine places.
func finely(p int64, x *big.Int) *big.Int {
	return new(big.Int).Lsh(x, uint(fine-p))
}

// finePart is x divided by y, in fine places.
func finePart(x *big.Int, y *big.Int) *big.Int {
	parts := new(big.Int).Lsh(x, fine)
	return parts.Quo(parts, y)
}

// fineTimes is the product of two that are told in fine places.
func fineTimes(x *big.Int, y *big.Int) *big.Int {
	both := product(x, y)
	return both.Rsh(both, fine)
}

// trueAtan is the angle whose tangent is y / x, where x is not below 0 and one of both is not 0.
func trueAtan(y *big.Int, x *big.Int) *big.Int {
	switch {
	case y.Sign() < 0:
		return negative(trueAtan(negative(y), x))
	case y.Cmp(x) > 0:
		quarter := truePi()
		return quarter.Sub(quarter.Rsh(quarter, 1), trueAtan(x, y))
	}
	return eulerAtan(y, x)
}

// eulerAtan is that angle by Euler's series, which is another one than the program's, where y is not above x.
func eulerAtan(y *big.Int, x *big.Int) *big.Int {
	squares := new(big.Int).Add(product(x, x), product(y, y))
	term := finePart(product(x, y), squares)
	ratio := finePart(product(y, y), squares)
	sum := new(big.Int)
	for n := int64(1); term.Sign() > 0; n++ {
		sum.Add(sum, term)
		term = fineTimes(term, ratio)
		term.Quo(term.Mul(term, big.NewInt(2*n)), big.NewInt(2*n+1))
	}
	return sum
}

// trueWave is the sine of x, or its cosine, where x is told in fine places and is 7 at most away from 0.
// The angle is halved until it is small, and doubled again.
func trueWave(x *big.Int) (sine *big.Int, cosine *big.Int) {
	const halved = 8
	small := new(big.Int).Rsh(x, halved)
	one := twoTo(fine, 0)
	sine, cosine = new(big.Int), new(big.Int)
	term := new(big.Int).Set(one)
	for n := int64(0); n < 60; n++ {
		into := []*big.Int{cosine, sine}[n%2]
		if n%4 < 2 {
			into.Add(into, term)
		} else {
			into.Sub(into, term)
		}
		term = fineTimes(term, small)
		term.Quo(term, big.NewInt(n+1))
	}
	for range halved {
		double := fineTimes(sine, cosine)
		square := fineTimes(sine, sine)
		sine = double.Lsh(double, 1)
		cosine = new(big.Int).Sub(one, square.Lsh(square, 1))
	}
	return sine, cosine
}

// checkHolds checks that the true number, told in fine places, is between the ends that are answered.
func checkHolds(t *testing.T, what string, p int64, got impl.SpanResult, want *big.Int) {
	t.Helper()
	low, high := endsOf(got.Span)
	low, high = finely(p, low), finely(p, high)
	if got.Code != impl.OK || low.Sub(low, slack).Cmp(want) > 0 || high.Add(high, slack).Cmp(want) < 0 {
		t.Errorf("%s with %d: %v has not %v in it", what, p, got, new(big.Int).Rsh(want, uint(fine-p)))
	}
}

// checkNarrow checks that the ends that are answered are at most so many units apart.
func checkNarrow(t *testing.T, what string, got impl.SpanResult, units int64) {
	t.Helper()
	low, high := endsOf(got.Span)
	if width := high.Sub(high, low); got.Code != impl.OK || width.Cmp(big.NewInt(units)) > 0 {
		t.Errorf("%s: got %v, which is more than %d units wide", what, got, units)
	}
}

// withTruths checks each case with each precision. What is true of a case is reckoned once for all of them.
func withTruths[T any](t *testing.T, cases []T, truth func(T) *big.Int, check func(t *testing.T, p int64, each T, truth *big.Int)) {
	t.Helper()
	truths := make([]*big.Int, len(cases))
	for i, each := range cases {
		truths[i] = truth(each)
	}
	for _, p := range precisions {
		t.Run(fmt.Sprint(p), func(t *testing.T) {
			t.Parallel()
			for i, each := range cases {
				check(t, p, each, truths[i])
			}
		})
	}
}

// wholesIn are both ends of a span and some whole units between them.
func wholesIn(a impl.Span) []*big.Int {
	low, high := endsOf(a)
	list := []*big.Int{low, high}
	for _, part := range []int64{1, 3, 6} {
		x := new(big.Int).Sub(high, low)
		x.Quo(x.Mul(x, big.NewInt(part)), big.NewInt(7))
		list = append(list, x.Add(x, low))
	}
	return list
}

// The tests' own numbers fit to each other and to what is known of them.
func TestTruth(t *testing.T) {
	one := big.NewInt(1)
	near := func(what string, x *big.Int, y *big.Int) {
		t.Helper()
		if rest := new(big.Int).Sub(x, y); rest.CmpAbs(slack) > 0 {
			t.Errorf("%s: %v is not %v", what, x, y)
		}
	}
	pi := truePi()
	quarter := trueAtan(one, one)
	thirds := new(big.Int).Add(trueAtan(one, big.NewInt(2)), trueAtan(one, big.NewInt(3)))
	near("a half and a third", thirds, quarter)
	near("1, 2 and 3", new(big.Int).Add(quarter, new(big.Int).Add(trueAtan(big.NewInt(2), one), trueAtan(big.NewInt(3), one))), pi)
	near("below 0", trueAtan(big.NewInt(-1), one), negative(quarter))
	near("four quarters", new(big.Int).Lsh(quarter, 2), pi)
	for n := int64(-4); n <= 4; n++ {
		angle := new(big.Int).Rsh(product(pi, big.NewInt(n)), 1)
		sine, cosine := trueWave(angle)
		around := (n + 4) % 4
		near("sine", sine, new(big.Int).Lsh(big.NewInt([]int64{0, 1, 0, -1}[around]), fine))
		near("cosine", cosine, new(big.Int).Lsh(big.NewInt([]int64{1, 0, -1, 0}[around]), fine))
	}
	sine, cosine := trueWave(new(big.Int).Quo(pi, big.NewInt(6)))
	near("the sine of a sixth", sine, twoTo(fine-1, 0))
	near("both squares", new(big.Int).Add(fineTimes(sine, sine), fineTimes(cosine, cosine)), twoTo(fine, 0))
	sine, cosine = trueWave(trueAtan(big.NewInt(3), big.NewInt(4)))
	near("three fifths", sine, finePart(big.NewInt(3), big.NewInt(5)))
	near("four fifths", cosine, finePart(big.NewInt(4), big.NewInt(5)))
}
