package tests

import (
	"math"
	"math/big"
	"slices"
	"testing"

	"loop.example/g00742/impl"
)

// checkBig compares an answer with the number it has to be, or with ErrFull, if that has more than 40 limbs.
func checkBig(t *testing.T, what string, got impl.BigResult, want *big.Int) {
	t.Helper()
	is := bigOf(want)
	if len(is.Limbs) > 40 {
		checkBigCode(t, what, got, impl.ErrFull)
		return
	}
	if got.Code != impl.OK || got.Big.Neg != is.Neg || !slices.Equal(got.Big.Limbs, is.Limbs) {
		t.Errorf("%s: got %v, want %v", what, got, is)
	}
}

func checkBigCode(t *testing.T, what string, got impl.BigResult, code int64) {
	t.Helper()
	if got.Code != code || got.Big.Neg || len(got.Big.Limbs) != 0 {
		t.Errorf("%s: got %v, want the code %d alone", what, got, code)
	}
}

// checkBigPair compares everything that is told of two bigs with what they are.
func checkBigPair(t *testing.T, a impl.Big, b impl.Big) {
	t.Helper()
	x, y := intOf(a), intOf(b)
	of := " of " + x.String() + " and " + y.String()
	checkBig(t, "AddBigs"+of, impl.AddBigs(a, b), new(big.Int).Add(x, y))
	checkBig(t, "SubBigs"+of, impl.SubBigs(a, b), new(big.Int).Sub(x, y))
	checkBig(t, "MulBigs"+of, impl.MulBigs(a, b), new(big.Int).Mul(x, y))
	if got := impl.CompareBigs(a, b); got != int64(x.Cmp(y)) {
		t.Errorf("CompareBigs%s: got %d", of, got)
	}
	if got := impl.SameBigs(a, b); got != (x.Cmp(y) == 0) {
		t.Errorf("SameBigs%s: got %v", of, got)
	}
	checkRounded(t, a, b)
}

// roundedDown is x divided by y, rounded down.
func roundedDown(x *big.Int, y *big.Int) *big.Int {
	quot, rest := new(big.Int).QuoRem(x, y, new(big.Int))
	if rest.Sign() != 0 && rest.Sign() != y.Sign() {
		quot.Sub(quot, big.NewInt(1))
	}
	return quot
}

// checkRounded compares both quotients with what they are, and with each other.
func checkRounded(t *testing.T, a impl.Big, b impl.Big) {
	t.Helper()
	x, y := intOf(a), intOf(b)
	of := " of " + x.String() + " and " + y.String()
	floor, ceil := impl.FloorDiv(a, b), impl.CeilDiv(a, b)
	if y.Sign() == 0 {
		checkBigCode(t, "FloorDiv"+of, floor, impl.ErrZero)
		checkBigCode(t, "CeilDiv"+of, ceil, impl.ErrZero)
		return
	}
	up := roundedDown(new(big.Int).Neg(x), y)
	checkBig(t, "FloorDiv"+of, floor, roundedDown(x, y))
	checkBig(t, "CeilDiv"+of, ceil, up.Neg(up))
	even := new(big.Int).Rem(x, y).Sign() == 0
	apart := new(big.Int).Sub(intOf(ceil.Big), intOf(floor.Big))
	if even && apart.Sign() != 0 || !even && apart.Cmp(big.NewInt(1)) != 0 {
		t.Errorf("quotients%s: %v and %v", of, floor, ceil)
	}
}

// checkRoots compares both roots with what they are; their squares are those between which the number has to be.
func checkRoots(t *testing.T, n *big.Int) {
	t.Helper()
	floor, ceil := impl.FloorRoot(bigOf(n)), impl.CeilRoot(bigOf(n))
	root := new(big.Int).Sqrt(n)
	checkBig(t, "FloorRoot of "+n.String(), floor, root)
	if new(big.Int).Mul(root, root).Cmp(n) < 0 {
		root.Add(root, big.NewInt(1))
	}
	checkBig(t, "CeilRoot of "+n.String(), ceil, root)
	low, high := intOf(floor.Big), intOf(ceil.Big)
	if low.Mul(low, low).Cmp(n) > 0 || high.Mul(high, high).Cmp(n) < 0 {
		t.Errorf("%v is not between %v and %v, the squares of its roots", n, low, high)
	}
}

func TestPromise3Examples(t *testing.T) {
	checkBig(t, "FloorDiv of -7 and 2", impl.FloorDiv(impl.BigOf(-7), impl.BigOf(2)), big.NewInt(-4))
	checkBig(t, "CeilRoot of 10", impl.CeilRoot(impl.BigOf(10)), big.NewInt(4))
}

func TestPromise3QuotientsByHand(t *testing.T) {
	cases := []struct{ a, b, floor, ceil int64 }{
		{7, 2, 3, 4}, {-7, 2, -4, -3}, {7, -2, -4, -3}, {-7, -2, 3, 4},
		{8, 2, 4, 4}, {-8, 2, -4, -4}, {8, -2, -4, -4}, {-8, -2, 4, 4},
		{1, 2, 0, 1}, {-1, 2, -1, 0}, {1, -2, -1, 0}, {-1, -2, 0, 1},
		{0, 5, 0, 0}, {0, -5, 0, 0}, {5, 5, 1, 1}, {-5, 5, -1, -1}, {5, -5, -1, -1}, {-5, -5, 1, 1},
		{65535, 65536, 0, 1}, {-65535, 65536, -1, 0}, {-131071, 2, -65536, -65535}, {131071, 2, 65535, 65536},
		{math.MinInt64, 1, math.MinInt64, math.MinInt64}, {math.MinInt64, math.MaxInt64, -2, -1}, {math.MaxInt64, math.MinInt64, -1, 0},
	}
	for _, c := range cases {
		a, b := impl.BigOf(c.a), impl.BigOf(c.b)
		checkBig(t, "FloorDiv", impl.FloorDiv(a, b), big.NewInt(c.floor))
		checkBig(t, "CeilDiv", impl.CeilDiv(a, b), big.NewInt(c.ceil))
		checkRounded(t, a, b)
	}
	checkBig(t, "least by -1", impl.FloorDiv(impl.BigOf(math.MinInt64), impl.BigOf(-1)), new(big.Int).Lsh(big.NewInt(1), 63))
}

func TestPromise3DividedByZero(t *testing.T) {
	for _, a := range edgeBigs() {
		for _, zero := range []impl.Big{{}, {Limbs: []int64{}}, impl.BigOf(0)} {
			checkBigCode(t, "FloorDiv by 0", impl.FloorDiv(a, zero), impl.ErrZero)
			checkBigCode(t, "CeilDiv by 0", impl.CeilDiv(a, zero), impl.ErrZero)
		}
	}
}

func TestPromise3EdgePairs(t *testing.T) {
	list := edgeBigs()
	for _, a := range list {
		for _, b := range list {
			checkBigPair(t, a, b)
		}
	}
}

func TestPromise3SmallPairs(t *testing.T) {
	for a := int64(-30); a <= 30; a++ {
		for b := int64(-30); b <= 30; b++ {
			checkBigPair(t, impl.BigOf(a), impl.BigOf(b))
		}
	}
}

func TestPromise3ThrownPairs(t *testing.T) {
	d := dice(2)
	for range 10000 {
		checkBigPair(t, d.big(d.below(41)), d.big(d.below(41)))
		checkBigPair(t, d.big(d.below(5)), d.big(d.below(4)))
	}
}

// What is a multiple of the divisor comes out even, and its neighbours do not.
func TestPromise3EvenQuotients(t *testing.T) {
	d := dice(3)
	for range 5000 {
		b := d.big(1 + d.below(20))
		multiple := new(big.Int).Mul(intOf(b), intOf(d.big(d.below(20))))
		for _, plus := range []int64{-1, 0, 1} {
			checkRounded(t, bigOf(new(big.Int).Add(multiple, big.NewInt(plus))), b)
		}
	}
}

func TestPromise3SmallRoots(t *testing.T) {
	for n := int64(0); n <= 70000; n++ {
		checkRoots(t, big.NewInt(n))
	}
}

// A root of a square, of one below it and of one above it, at each size of the root.
func TestPromise3SquareRoots(t *testing.T) {
	d := dice(4)
	check := func(limbs []int64) {
		square := numberOf(limbs)
		square.Mul(square, square)
		for _, plus := range []int64{-2, -1, 0, 1, 2} {
			n := new(big.Int).Add(square, big.NewInt(plus))
			if n.Sign() >= 0 && len(limbsOf(n)) <= impl.MaxLimbs {
				checkRoots(t, n)
			}
		}
	}
	for n := 0; n <= 20; n++ {
		check(allLimbs(n, 65535))
		check(limbsOf(power(uint(n), 0)))
		for range 50 {
			check(d.natural(n))
		}
	}
	for n := range uint(320) {
		check(limbsOf(new(big.Int).Lsh(big.NewInt(1), n)))
	}
}

func TestPromise3AllRoots(t *testing.T) {
	d := dice(5)
	for _, limbs := range edgeNaturals() {
		checkRoots(t, numberOf(limbs))
	}
	for n := 0; n <= 40; n++ {
		for range 50 {
			checkRoots(t, numberOf(d.natural(n)))
		}
	}
	for n := range uint(640) {
		checkRoots(t, new(big.Int).Lsh(big.NewInt(1), n))
	}
}

func TestPromise3RootsByHand(t *testing.T) {
	greatest := impl.Big{Limbs: allLimbs(40, 65535)}
	checkBig(t, "FloorRoot of the greatest", impl.FloorRoot(greatest), power(20, -1))
	checkBig(t, "CeilRoot of the greatest", impl.CeilRoot(greatest), power(20, 0))
	checkBig(t, "FloorRoot of 0", impl.FloorRoot(impl.BigOf(0)), big.NewInt(0))
	checkBig(t, "CeilRoot of 0", impl.CeilRoot(impl.Big{Limbs: []int64{}}), big.NewInt(0))
	for _, a := range edgeBigs() {
		if a.Neg {
			checkBigCode(t, "FloorRoot below 0", impl.FloorRoot(a), impl.ErrRange)
			checkBigCode(t, "CeilRoot below 0", impl.CeilRoot(a), impl.ErrRange)
		}
	}
}

func TestPromise3MaxLimbs(t *testing.T) {
	greatest, least := impl.Big{Limbs: allLimbs(40, 65535)}, impl.Big{Neg: true, Limbs: allLimbs(40, 65535)}
	one, less := impl.BigOf(1), impl.BigOf(-1)
	half, halfLess := bigOf(power(20, 0)), bigOf(new(big.Int).Neg(power(20, 0)))
	checks := []struct {
		what string
		got  impl.BigResult
		code int64
		neg  bool
		size int
	}{
		{"greatest and 1", impl.AddBigs(greatest, one), impl.ErrFull, false, 0},
		{"greatest and -1", impl.AddBigs(greatest, less), impl.OK, false, 40},
		{"least and 1", impl.AddBigs(least, one), impl.OK, true, 40},
		{"least and -1", impl.AddBigs(less, least), impl.ErrFull, false, 0},
		{"greatest and least", impl.AddBigs(greatest, least), impl.OK, false, 0},
		{"greatest less 1", impl.SubBigs(greatest, one), impl.OK, false, 40},
		{"greatest less -1", impl.SubBigs(greatest, less), impl.ErrFull, false, 0},
		{"least less 1", impl.SubBigs(least, one), impl.ErrFull, false, 0},
		{"least less -1", impl.SubBigs(least, less), impl.OK, true, 40},
		{"1 less least", impl.SubBigs(one, least), impl.ErrFull, false, 0},
		{"0 less least", impl.SubBigs(impl.BigOf(0), least), impl.OK, false, 40},
		{"0 less greatest", impl.SubBigs(impl.BigOf(0), greatest), impl.OK, true, 40},
		{"least less least", impl.SubBigs(least, least), impl.OK, false, 0},
		{"greatest times -1", impl.MulBigs(greatest, less), impl.OK, true, 40},
		{"least times -1", impl.MulBigs(least, less), impl.OK, false, 40},
		{"least times 2", impl.MulBigs(least, impl.BigOf(2)), impl.ErrFull, false, 0},
		{"least times 0", impl.MulBigs(least, impl.BigOf(0)), impl.OK, false, 0},
		{"0 times least", impl.MulBigs(impl.BigOf(0), least), impl.OK, false, 0},
		{"41 limbs", impl.MulBigs(half, half), impl.ErrFull, false, 0},
		{"41 limbs below 0", impl.MulBigs(half, halfLess), impl.ErrFull, false, 0},
		{"greatest by -1, down", impl.FloorDiv(greatest, less), impl.OK, true, 40},
		{"least by -1, up", impl.CeilDiv(least, less), impl.OK, false, 40},
		{"greatest by itself, up", impl.CeilDiv(greatest, greatest), impl.OK, false, 1},
		{"1 by least, down", impl.FloorDiv(one, least), impl.OK, true, 1},
		{"1 by least, up", impl.CeilDiv(one, least), impl.OK, false, 0},
	}
	for _, c := range checks {
		if c.got.Code != c.code || c.got.Big.Neg != c.neg || len(c.got.Big.Limbs) != c.size {
			t.Errorf("%s: got %v, want code %d, Neg %v and %d limbs", c.what, c.got, c.code, c.neg, c.size)
		}
	}
}

func TestPromise3Int64(t *testing.T) {
	numbers := []int64{0, 1, 9, 65535, 65536, 4294967295, 4294967296, math.MaxInt64 - 1, math.MaxInt64, math.MinInt64, math.MinInt64 + 1}
	for _, n := range numbers {
		for _, signed := range []int64{n, -n} { // the least one is its own opposite here
			got := impl.BigOf(signed)
			checkBig(t, "BigOf", impl.BigResult{Big: got}, big.NewInt(signed))
			if back := impl.BigValue(got); back != (impl.IntResult{Value: signed}) {
				t.Errorf("BigValue of %d: got %v", signed, back)
			}
		}
	}
	list := edgeBigs()
	for n := range uint(70) {
		list = append(list, bigOf(new(big.Int).Lsh(big.NewInt(1), n)), bigOf(new(big.Int).Lsh(big.NewInt(-1), n)))
	}
	for _, a := range list {
		n, want := intOf(a), impl.IntResult{Code: impl.ErrFull}
		if n.IsInt64() {
			want = impl.IntResult{Value: n.Int64()}
		}
		if got := impl.BigValue(a); got != want {
			t.Errorf("BigValue of %v: got %v, want %v", n, got, want)
		}
	}
}

// The ends of a word, and one beyond each.
func TestPromise3EndsOfWord(t *testing.T) {
	greatest, least := impl.BigOf(math.MaxInt64), impl.BigOf(math.MinInt64)
	if least.Neg != true || !slices.Equal(least.Limbs, []int64{0, 0, 0, 32768}) {
		t.Errorf("BigOf the least: got %v", least)
	}
	above, below := impl.AddBigs(greatest, impl.BigOf(1)), impl.SubBigs(least, impl.BigOf(1))
	texts := []struct {
		a     impl.Big
		text  string
		value impl.IntResult
	}{
		{greatest, "9223372036854775807", impl.IntResult{Value: math.MaxInt64}},
		{above.Big, "9223372036854775808", impl.IntResult{Code: impl.ErrFull}},
		{least, "-9223372036854775808", impl.IntResult{Value: math.MinInt64}},
		{below.Big, "-9223372036854775809", impl.IntResult{Code: impl.ErrFull}},
	}
	for _, c := range texts {
		if text, value := impl.BigText(c.a), impl.BigValue(c.a); text.Text != c.text || value != c.value {
			t.Errorf("%s: got %v and %v", c.text, text, value)
		}
	}
}

func TestPromise3Zero(t *testing.T) {
	five, less := impl.BigOf(5), impl.BigOf(-5)
	zeros := []impl.BigResult{
		{Big: impl.BigOf(0)}, impl.AddBigs(five, less), impl.AddBigs(less, five), impl.SubBigs(five, five), impl.SubBigs(less, less),
		impl.MulBigs(less, impl.BigOf(0)), impl.MulBigs(impl.BigOf(0), less), impl.FloorDiv(impl.BigOf(0), less), impl.CeilDiv(impl.BigOf(0), less),
		impl.CeilDiv(impl.BigOf(-4), five), impl.CeilDiv(impl.BigOf(4), less), impl.FloorDiv(impl.BigOf(4), five), impl.AddBigs(impl.BigOf(0), impl.BigOf(0)),
		impl.SubBigs(impl.BigOf(0), impl.BigOf(0)),
	}
	for i, r := range zeros {
		checkBig(t, "0", r, big.NewInt(0))
		if impl.BigText(r.Big).Text != "0" || impl.BigFault(r.Big) != impl.OK {
			t.Errorf("zero %d: got the text %v", i, impl.BigText(r.Big))
		}
	}
	for _, form := range []impl.Big{{Neg: true}, {Neg: true, Limbs: []int64{}}} {
		if code := impl.BigFault(form); code != impl.ErrForm {
			t.Errorf("BigFault of a 0 that is Neg: got %d", code)
		}
	}
}

func TestPromise3Texts(t *testing.T) {
	d := dice(6)
	list := edgeBigs()
	for i := range 1000 {
		list = append(list, d.big(i%41))
	}
	for _, a := range list {
		want := intOf(a).String()
		if got := impl.BigText(a); got != (impl.TextResult{Text: want}) {
			t.Errorf("BigText of %v: got %v, want %s", a, got, want)
		}
	}
}

func TestPromise3Compare(t *testing.T) {
	var rising []impl.Big
	sizes := [][]int64{{1}, {65535}, {0, 1}, {1, 1}, {0, 2}, {65535, 65535}, {0, 0, 1}, allLimbs(40, 1), allLimbs(40, 65535)}
	for _, limbs := range slices.Backward(sizes) {
		rising = append(rising, impl.Big{Neg: true, Limbs: limbs})
	}
	rising = append(rising, impl.Big{})
	for _, limbs := range sizes {
		rising = append(rising, impl.Big{Limbs: limbs})
	}
	for i, a := range rising {
		for j, b := range rising {
			want := int64(0)
			if i < j {
				want = -1
			} else if i > j {
				want = 1
			}
			if got := impl.CompareBigs(a, b); got != want {
				t.Errorf("CompareBigs of %v and %v: got %d", a, b, got)
			}
		}
	}
}
