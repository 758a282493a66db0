package tests

import (
	"math"
	"math/big"
	"slices"
	"strings"

	"loop.example/g00742/impl"
)

// filler is what the tests write over memory that nobody but its owner may look at.
const filler = -77

// limbsOf is the big number's limbs, the lowest one first, reckoned without the program.
func limbsOf(n *big.Int) []int64 {
	base := big.NewInt(65536)
	left := new(big.Int).Set(n)
	var limbs []int64
	for left.Sign() > 0 {
		limb := new(big.Int)
		left.DivMod(left, base, limb)
		limbs = append(limbs, limb.Int64())
	}
	return limbs
}

// numberOf is the number that these limbs are, reckoned without the program.
func numberOf(limbs []int64) *big.Int {
	n := new(big.Int)
	for _, limb := range slices.Backward(limbs) {
		n.Lsh(n, 16)
		n.Add(n, big.NewInt(limb))
	}
	return n
}

// power is 65536 to the power of n, and plus more.
func power(n uint, plus int64) *big.Int {
	p := new(big.Int).Lsh(big.NewInt(1), 16*n)
	return p.Add(p, big.NewInt(plus))
}

// allLimbs is a natural of n limbs that are all the same.
func allLimbs(n int, limb int64) []int64 {
	limbs := make([]int64, n)
	for i := range limbs {
		limbs[i] = limb
	}
	return limbs
}

// dice throws numbers that are the same at each run.
type dice uint64

func (d *dice) below(n int) int {
	*d = *d*6364136223846793005 + 1442695040888963407
	return int(uint64(*d) >> 33 % uint64(n))
}

// natural throws a natural of n limbs; most of them are those at which carries and guesses go wrong.
func (d *dice) natural(n int) []int64 {
	edges := []int64{0, 0, 1, 2, 32767, 32768, 65534, 65535, 65535}
	limbs := make([]int64, n)
	for i := range limbs {
		if d.below(3) == 0 {
			limbs[i] = int64(d.below(65536))
		} else {
			limbs[i] = edges[d.below(len(edges))]
		}
	}
	if n > 0 && limbs[n-1] == 0 {
		limbs[n-1] = 1
	}
	return limbs
}

// edgeNaturals are the naturals that chapter 1 makes one look at, and their neighbours.
func edgeNaturals() [][]int64 {
	list := [][]int64{nil, {}, {1}, {2}, {9}, {10}, {65535}, {0, 1}, {1, 1}, {65535, 1}, {0, 65535}, {65535, 65535}}
	for _, n := range []uint{2, 3, 4, 20, 39} {
		for _, plus := range []int64{-65536, -1, 0, 1, 65535} {
			list = append(list, limbsOf(power(n, plus)))
		}
	}
	list = append(list, []int64{65535, 65535, 65535, 32767}, []int64{0, 0, 0, 32768}, []int64{1, 0, 0, 32768})
	list = append(list, []int64{65535, 0, 1}, []int64{65535, 65535, 0, 1}, []int64{65535, 0, 65535}, []int64{0, 0, 65535, 65534})
	return append(list, allLimbs(40, 65535), append(allLimbs(39, 65535), 65534), append(allLimbs(39, 0), 1), append(allLimbs(39, 0), 65535))
}

// faulty is a list of limbs with a fault, and the code that chapter 1 has for it.
type faulty struct {
	limbs []int64
	code  int64
}

// faultyNaturals have each fault alone, and with each one that is asked later.
func faultyNaturals(many, outOfRange, form int64) []faulty {
	list := []faulty{
		{[]int64{0}, form}, {[]int64{1, 0}, form}, {[]int64{65535, 0, 0}, form}, {allLimbs(40, 0), form},
		{[]int64{65536}, outOfRange}, {[]int64{-1}, outOfRange}, {[]int64{1, 65536, 1}, outOfRange}, {[]int64{-1, 1}, outOfRange},
		{[]int64{1, -9223372036854775808}, outOfRange}, {[]int64{9223372036854775807, 1}, outOfRange},
		{[]int64{65536, 0}, outOfRange}, {[]int64{-1, 0}, outOfRange}, {append(allLimbs(39, 65535), 65536), outOfRange},
	}
	return append(list, faulty{allLimbs(41, 1), many}, faulty{allLimbs(41, 0), many}, faulty{allLimbs(41, -1), many}, faulty{allLimbs(41, 65536), many}, faulty{allLimbs(1000, 65535), many})
}

// wrongTexts are no naturals' texts.
func wrongTexts() []string {
	list := []string{"", " ", "00", "01", "007", "-0", "-1", "+1", " 1", "1 ", "1 2", "1\n", "1.0", "1e3", "0x1", "1_000", "a", "1a", "/", ":", "1/", "1:", "\x00", "1\x00", "\xff", "1\xb2", "٣", "１", "²"}
	long := strings.Repeat("9", 500)
	return append(list, "0"+long, long+"x", long+" ", "-"+long)
}

// bigOf is the number as a big, reckoned without the program.
func bigOf(n *big.Int) impl.Big {
	return impl.Big{Neg: n.Sign() < 0, Limbs: limbsOf(new(big.Int).Abs(n))}
}

// intOf is the number that a big is, reckoned without the program.
func intOf(a impl.Big) *big.Int {
	n := numberOf(a.Limbs)
	if a.Neg {
		n.Neg(n)
	}
	return n
}

// big throws a big of n limbs.
func (d *dice) big(n int) impl.Big {
	return impl.Big{Neg: n > 0 && d.below(2) == 0, Limbs: d.natural(n)}
}

// edgeBigs are the naturals of edgeNaturals and what is as far below 0, and the ends of a word with their neighbours.
func edgeBigs() []impl.Big {
	var list []impl.Big
	for _, limbs := range edgeNaturals() {
		list = append(list, impl.Big{Limbs: limbs})
		if len(limbs) > 0 {
			list = append(list, impl.Big{Neg: true, Limbs: limbs})
		}
	}
	for _, plus := range []int64{-2, -1, 0, 1, 2} {
		end := new(big.Int).Lsh(big.NewInt(1), 63)
		end.Add(end, big.NewInt(plus))
		list = append(list, bigOf(end), bigOf(new(big.Int).Neg(end)))
	}
	return list
}

// precisions are all that there are.
var precisions = []int64{48, 72, 96}

// noPrecisions are numbers about the precisions, and ones of which a part is one.
func noPrecisions() []int64 {
	list := []int64{math.MinInt64, math.MaxInt64, 48 + 1<<8, 72 + 1<<16, 96 + 1<<32, 48 + math.MinInt64}
	for p := int64(-100); p <= 200; p++ {
		if !slices.Contains(precisions, p) {
			list = append(list, p)
		}
	}
	return list
}

// twoTo is 2 to the power of n, and plus more.
func twoTo(n int64, plus int64) *big.Int {
	p := new(big.Int).Lsh(big.NewInt(1), uint(n))
	return p.Add(p, big.NewInt(plus))
}

func negative(x *big.Int) *big.Int {
	return new(big.Int).Neg(x)
}

// spanOf is the span from low to high, reckoned without the program.
func spanOf(low *big.Int, high *big.Int) impl.Span {
	return impl.Span{Low: bigOf(low), High: bigOf(high)}
}

// smallSpan is the span from low to high.
func smallSpan(low int64, high int64) impl.Span {
	return spanOf(big.NewInt(low), big.NewInt(high))
}

// spansOf are the spans from each of these ends to itself and to each one above it.
func spansOf(ends []*big.Int) []impl.Span {
	var list []impl.Span
	for _, low := range ends {
		for _, high := range ends {
			if low.Cmp(high) <= 0 {
				list = append(list, spanOf(low, high))
			}
		}
	}
	return list
}

// bothSigns are 0, these numbers, and what is as far below 0.
func bothSigns(numbers ...*big.Int) []*big.Int {
	list := []*big.Int{new(big.Int)}
	for _, n := range numbers {
		list = append(list, n, negative(n))
	}
	return list
}

// nearEnds are ends about 0 and about one.
func nearEnds(p int64) []*big.Int {
	half := twoTo(p-1, 0)
	return bothSigns(big.NewInt(1), twoTo(p, 0), new(big.Int).Add(twoTo(p+1, 1), half))
}

// edgeEnds are ends of all sizes, and those at which a sum, a product, a quotient or a square comes to MaxEnd limbs or to one more.
func edgeEnds(p int64) []*big.Int {
	return bothSigns(
		big.NewInt(1), big.NewInt(2), twoTo(p, -1), twoTo(p, 0), twoTo(p, 1), twoTo(p/2, 0), twoTo(p+2, -1),
		twoTo(160+p/2, -1), twoTo(160+p/2, 0), twoTo(160+p/2, 1), twoTo(320-p, -1), twoTo(320-p, 0), twoTo(319, 0), twoTo(320, -2), twoTo(320, -1),
	)
}

// span throws a span whose ends have n limbs at most.
func (d *dice) span(n int) impl.Span {
	x, y := intOf(d.big(d.below(n+1))), intOf(d.big(d.below(n+1)))
	if x.Cmp(y) > 0 {
		x, y = y, x
	}
	return spanOf(x, y)
}
