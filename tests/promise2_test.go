package tests

import (
	"math"
	"math/big"
	"slices"
	"strings"
	"testing"

	"loop.example/g00742/impl"
)

// checkNat compares an answer with the number it has to be, or with ErrFull, if that has more than 40 limbs.
func checkNat(t *testing.T, what string, got impl.NatResult, want *big.Int) {
	t.Helper()
	limbs := limbsOf(want)
	if len(limbs) > 40 {
		if got.Code != impl.ErrFull || len(got.Limbs) != 0 {
			t.Errorf("%s: got %v, want ErrFull and no limbs", what, got)
		}
		return
	}
	if got.Code != impl.OK || !slices.Equal(got.Limbs, limbs) {
		t.Errorf("%s: got %v, want %v", what, got, limbs)
	}
}

// checkPair compares everything that is told of two naturals with what they are.
func checkPair(t *testing.T, a []int64, b []int64) {
	t.Helper()
	x, y := numberOf(a), numberOf(b)
	checkNat(t, "sum of "+x.String()+" and "+y.String(), impl.AddNats(a, b), new(big.Int).Add(x, y))
	checkNat(t, "product of "+x.String()+" and "+y.String(), impl.MulNats(a, b), new(big.Int).Mul(x, y))
	if got := impl.CompareNats(a, b); got != int64(x.Cmp(y)) {
		t.Errorf("compare %v and %v: got %d", x, y, got)
	}
	sub := impl.SubNats(a, b)
	if x.Cmp(y) >= 0 {
		checkNat(t, x.String()+" less "+y.String(), sub, new(big.Int).Sub(x, y))
	} else if sub.Code != impl.ErrRange || len(sub.Limbs) != 0 {
		t.Errorf("%v less %v: got %v, want ErrRange", x, y, sub)
	}
	checkQuotient(t, a, b)
}

func checkQuotient(t *testing.T, a []int64, b []int64) {
	t.Helper()
	got := impl.DivNats(a, b)
	if len(b) == 0 {
		if got.Code != impl.ErrZero || len(got.Quot) != 0 || len(got.Rest) != 0 {
			t.Errorf("%v by 0: got %v, want ErrZero", a, got)
		}
		return
	}
	quot, rest := new(big.Int).DivMod(numberOf(a), numberOf(b), new(big.Int))
	if got.Code != impl.OK || !slices.Equal(got.Quot, limbsOf(quot)) || !slices.Equal(got.Rest, limbsOf(rest)) {
		t.Errorf("%v by %v: got %v, want %v and %v", a, b, got, limbsOf(quot), limbsOf(rest))
		return
	}
	back := impl.AddNats(impl.MulNats(got.Quot, b).Limbs, got.Rest)
	if back.Code != impl.OK || impl.CompareNats(back.Limbs, a) != 0 || impl.CompareNats(got.Rest, b) != -1 {
		t.Errorf("%v by %v: quotient times divisor and rest are %v", a, b, back)
	}
}

func TestPromise2EdgePairs(t *testing.T) {
	list := edgeNaturals()
	for _, a := range list {
		for _, b := range list {
			checkPair(t, a, b)
		}
	}
}

func TestPromise2ThrownPairs(t *testing.T) {
	d := dice(742)
	for range 20000 {
		checkPair(t, d.natural(d.below(41)), d.natural(d.below(41)))
	}
	for range 20000 { // short ones meet more of each other's cases
		checkPair(t, d.natural(d.below(6)), d.natural(d.below(4)))
	}
}

// What is one below a multiple of the divisor makes guesses that are one too great.
func TestPromise2MendedQuotients(t *testing.T) {
	d := dice(65535)
	for range 20000 {
		b := d.natural(1 + d.below(20))
		multiple := new(big.Int).Mul(numberOf(b), numberOf(d.natural(1+d.below(20))))
		for _, plus := range []int64{-1, 0, 1} {
			checkQuotient(t, limbsOf(new(big.Int).Add(multiple, big.NewInt(plus))), b)
		}
	}
}

func TestPromise2MendedQuotientsByHand(t *testing.T) {
	cases := []struct{ a, b, quot, rest []int64 }{
		// The guess is 65536, which is no limb.
		{[]int64{0, 0, 0, 1}, []int64{65535, 0, 1}, []int64{65535}, []int64{65535, 1}},
		// The guess is 65535: 65535 times the divisor, less 1.
		{[]int64{0, 65534, 65535}, []int64{65535, 0, 1}, []int64{65534}, []int64{65534, 0, 1}},
		// The guess is 1: the divisor's top limbs, and less below them.
		{[]int64{0, 7, 9}, []int64{1, 7, 9}, nil, []int64{0, 7, 9}},
		{[]int64{65535, 65535, 65535}, []int64{65535, 65535}, []int64{0, 1}, []int64{65535}},
		{allLimbs(40, 65535), []int64{65535}, allLimbs(40, 1), nil},
		{allLimbs(40, 65535), []int64{1}, allLimbs(40, 65535), nil},
		{allLimbs(40, 65535), allLimbs(40, 65535), []int64{1}, nil},
		{append(allLimbs(39, 65535), 65534), allLimbs(40, 65535), nil, append(allLimbs(39, 65535), 65534)},
		{nil, []int64{1}, nil, nil},
		{[]int64{6}, []int64{7}, nil, []int64{6}},
	}
	for _, c := range cases {
		got := impl.DivNats(c.a, c.b)
		if got.Code != impl.OK || !slices.Equal(got.Quot, c.quot) || !slices.Equal(got.Rest, c.rest) {
			t.Errorf("%v by %v: got %v, want %v and %v", c.a, c.b, got, c.quot, c.rest)
		}
	}
}

func TestPromise2Examples(t *testing.T) {
	if got := impl.NatOf(65536); got.Code != impl.OK || !slices.Equal(got.Limbs, []int64{0, 1}) {
		t.Errorf("NatOf 65536: got %v", got)
	}
	got := impl.DivNats(impl.NatOf(1000000).Limbs, impl.NatOf(7).Limbs)
	if got.Code != impl.OK || impl.NatText(got.Quot).Text != "142857" || impl.NatText(got.Rest).Text != "1" {
		t.Errorf("1000000 by 7: got %v", got)
	}
}

func TestPromise2MaxLimbs(t *testing.T) {
	greatest := allLimbs(impl.MaxLimbs, 65535)
	one := []int64{1}
	half := append(allLimbs(20, 0), 1)
	checks := []struct {
		what string
		got  impl.NatResult
		code int64
		size int
	}{
		{"greatest and 0", impl.AddNats(greatest, nil), impl.OK, 40},
		{"greatest and 1", impl.AddNats(greatest, one), impl.ErrFull, 0},
		{"1 and greatest", impl.AddNats(one, greatest), impl.ErrFull, 0},
		{"greatest and itself", impl.AddNats(greatest, greatest), impl.ErrFull, 0},
		{"one below and 1", impl.AddNats(impl.SubNats(greatest, one).Limbs, one), impl.OK, 40},
		{"greatest times 1", impl.MulNats(greatest, one), impl.OK, 40},
		{"greatest times 0", impl.MulNats(greatest, nil), impl.OK, 0},
		{"greatest times 2", impl.MulNats(greatest, []int64{2}), impl.ErrFull, 0},
		{"greatest times itself", impl.MulNats(greatest, greatest), impl.ErrFull, 0},
		{"41 limbs", impl.MulNats(half, half), impl.ErrFull, 0},
		{"40 limbs of 20 and 20", impl.MulNats(allLimbs(20, 65535), allLimbs(20, 65535)), impl.OK, 40},
		{"40 limbs of 21 and 20", impl.MulNats(half, append(allLimbs(19, 0), 1)), impl.OK, 40},
	}
	for _, c := range checks {
		if c.got.Code != c.code || len(c.got.Limbs) != c.size {
			t.Errorf("%s: got %v, want code %d and %d limbs", c.what, c.got, c.code, c.size)
		}
	}
}

func TestPromise2Int64(t *testing.T) {
	numbers := []int64{0, 1, 9, 10, 65535, 65536, 65537, 4294967295, 4294967296, 281474976710655, 281474976710656, math.MaxInt64 - 1, math.MaxInt64}
	for _, n := range numbers {
		nat := impl.NatOf(n)
		checkNat(t, "of", nat, big.NewInt(n))
		if back := impl.NatValue(nat.Limbs); back.Code != impl.OK || back.Value != n {
			t.Errorf("%d: value %v", n, back)
		}
	}
	for _, n := range []int64{-1, -65536, math.MinInt64} {
		if got := impl.NatOf(n); got.Code != impl.ErrRange || len(got.Limbs) != 0 {
			t.Errorf("NatOf %d: got %v", n, got)
		}
	}
	for _, a := range append(edgeNaturals(), limbsOf(new(big.Int).Lsh(big.NewInt(1), 64))) {
		n, got := numberOf(a), impl.NatValue(a)
		if n.IsInt64() && got != (impl.IntResult{Value: n.Int64()}) || !n.IsInt64() && got != (impl.IntResult{Code: impl.ErrFull}) {
			t.Errorf("NatValue of %v: got %v", n, got)
		}
	}
}

func TestPromise2Texts(t *testing.T) {
	d := dice(10)
	list := edgeNaturals()
	for i := range 2000 {
		list = append(list, d.natural(i%41))
	}
	for n, ten := 0, big.NewInt(1); n < 190; n++ { // a 1 and zeros, and its neighbours
		list = append(list, limbsOf(ten), limbsOf(new(big.Int).Sub(ten, big.NewInt(1))))
		ten = new(big.Int).Mul(ten, big.NewInt(10))
	}
	for _, a := range list {
		want := numberOf(a).String()
		if got := impl.NatText(a); got != (impl.TextResult{Text: want}) {
			t.Errorf("NatText of %v: got %v, want %s", a, got, want)
		}
		if back := impl.ReadNat(want); back.Code != impl.OK || !slices.Equal(back.Limbs, a) {
			t.Errorf("ReadNat of %s: got %v, want %v", want, back, a)
		}
	}
}

func TestPromise2TextFaults(t *testing.T) {
	for _, text := range wrongTexts() {
		if got := impl.ReadNat(text); got.Code != impl.ErrText || len(got.Limbs) != 0 {
			t.Errorf("ReadNat of %q: got %v, want ErrText", text, got)
		}
	}
	greatest := power(40, -1).String()
	if got := impl.ReadNat(greatest); got.Code != impl.OK || !slices.Equal(got.Limbs, allLimbs(40, 65535)) {
		t.Errorf("ReadNat of the greatest: got %v", got)
	}
	for _, text := range []string{power(40, 0).String(), power(41, 0).String(), greatest + "0", strings.Repeat("9", 1000)} {
		if got := impl.ReadNat(text); got.Code != impl.ErrFull || len(got.Limbs) != 0 {
			t.Errorf("ReadNat of %s: got %v, want ErrFull", text, got)
		}
		if got := impl.ReadNat(text + "x"); got.Code != impl.ErrText {
			t.Errorf("ReadNat of %sx: got %v, want ErrText", text, got)
		}
	}
}

func TestPromise2Compare(t *testing.T) {
	rising := [][]int64{nil, {1}, {65535}, {0, 1}, {1, 1}, {0, 2}, {65535, 65535}, {0, 0, 1}, allLimbs(40, 1), append(allLimbs(39, 0), 2), allLimbs(40, 65535)}
	for i, a := range rising {
		for j, b := range rising {
			want := int64(0)
			if i < j {
				want = -1
			} else if i > j {
				want = 1
			}
			if got := impl.CompareNats(a, b); got != want {
				t.Errorf("compare %v and %v: got %d", a, b, got)
			}
		}
	}
}
