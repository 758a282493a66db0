package tests

import (
	"math/big"
	"slices"
	"strings"

	"loop.example/g00742/impl"
)

// filler is what the tests write over memory that nobody but its owner may look at.
const filler = -77

// limbsOf is the big number's limbs, the lowest one first, reckoned without the program.
func limbsOf(n *big.Int) []int64 {
	base := big.NewInt(65536)
	left := new(big.Int).Set(n)
	var limbs []int64
	for left.Sign() > 0 {
		limb := new(big.Int)
		left.DivMod(left, base, limb)
		limbs = append(limbs, limb.Int64())
	}
	return limbs
}

// numberOf is the number that these limbs are, reckoned without the program.
func numberOf(limbs []int64) *big.Int {
	n := new(big.Int)
	for _, limb := range slices.Backward(limbs) {
		n.Lsh(n, 16)
		n.Add(n, big.NewInt(limb))
	}
	return n
}

// power is 65536 to the power of n, and plus more.
func power(n uint, plus int64) *big.Int {
	p := new(big.Int).Lsh(big.NewInt(1), 16*n)
	return p.Add(p, big.NewInt(plus))
}

// allLimbs is a natural of n limbs that are all the same.
func allLimbs(n int, limb int64) []int64 {
	limbs := make([]int64, n)
	for i := range limbs {
		limbs[i] = limb
	}
	return limbs
}

// dice throws numbers that are the same at each run.
type dice uint64

func (d *dice) below(n int) int {
	*d = *d*6364136223846793005 + 1442695040888963407
	return int(uint64(*d) >> 33 % uint64(n))
}

// natural throws a natural of n limbs; most of them are those at which carries and guesses go wrong.
func (d *dice) natural(n int) []int64 {
	edges := []int64{0, 0, 1, 2, 32767, 32768, 65534, 65535, 65535}
	limbs := make([]int64, n)
	for i := range limbs {
		if d.below(3) == 0 {
			limbs[i] = int64(d.below(65536))
		} else {
			limbs[i] = edges[d.below(len(edges))]
		}
	}
	if n > 0 && limbs[n-1] == 0 {
		limbs[n-1] = 1
	}
	return limbs
}

// edgeNaturals are the naturals that chapter 1 makes one look at, and their neighbours.
func edgeNaturals() [][]int64 {
	list := [][]int64{nil, {}, {1}, {2}, {9}, {10}, {65535}, {0, 1}, {1, 1}, {65535, 1}, {0, 65535}, {65535, 65535}}
	for _, n := range []uint{2, 3, 4, 20, 39} {
		for _, plus := range []int64{-65536, -1, 0, 1, 65535} {
			list = append(list, limbsOf(power(n, plus)))
		}
	}
	list = append(list, []int64{65535, 65535, 65535, 32767}, []int64{0, 0, 0, 32768}, []int64{1, 0, 0, 32768})
	list = append(list, []int64{65535, 0, 1}, []int64{65535, 65535, 0, 1}, []int64{65535, 0, 65535}, []int64{0, 0, 65535, 65534})
	return append(list, allLimbs(40, 65535), append(allLimbs(39, 65535), 65534), append(allLimbs(39, 0), 1), append(allLimbs(39, 0), 65535))
}

// faulty is a list of limbs with a fault, and the code that chapter 1 has for it.
type faulty struct {
	limbs []int64
	code  int64
}

// faultyNaturals have each fault alone, and with each one that is asked later.
func faultyNaturals(many, outOfRange, form int64) []faulty {
	list := []faulty{
		{[]int64{0}, form}, {[]int64{1, 0}, form}, {[]int64{65535, 0, 0}, form}, {allLimbs(40, 0), form},
		{[]int64{65536}, outOfRange}, {[]int64{-1}, outOfRange}, {[]int64{1, 65536, 1}, outOfRange}, {[]int64{-1, 1}, outOfRange},
		{[]int64{1, -9223372036854775808}, outOfRange}, {[]int64{9223372036854775807, 1}, outOfRange},
		{[]int64{65536, 0}, outOfRange}, {[]int64{-1, 0}, outOfRange}, {append(allLimbs(39, 65535), 65536), outOfRange},
	}
	return append(list, faulty{allLimbs(41, 1), many}, faulty{allLimbs(41, 0), many}, faulty{allLimbs(41, -1), many}, faulty{allLimbs(41, 65536), many}, faulty{allLimbs(1000, 65535), many})
}

// wrongTexts are no naturals' texts.
func wrongTexts() []string {
	list := []string{"", " ", "00", "01", "007", "-0", "-1", "+1", " 1", "1 ", "1 2", "1\n", "1.0", "1e3", "0x1", "1_000", "a", "1a", "/", ":", "1/", "1:", "\x00", "1\x00", "\xff", "1\xb2", "٣", "１", "²"}
	long := strings.Repeat("9", 500)
	return append(list, "0"+long, long+"x", long+" ", "-"+long)
}

// bigOf is the number as a big, reckoned without the program.
func bigOf(n *big.Int) impl.Big {
	return impl.Big{Neg: n.Sign() < 0, Limbs: limbsOf(new(big.Int).Abs(n))}
}

// intOf is the number that a big is, reckoned without the program.
func intOf(a impl.Big) *big.Int {
	n := numberOf(a.Limbs)
	if a.Neg {
		n.Neg(n)
	}
	return n
}

// big throws a big of n limbs.
func (d *dice) big(n int) impl.Big {
	return impl.Big{Neg: n > 0 && d.below(2) == 0, Limbs: d.natural(n)}
}

// edgeBigs are the naturals of edgeNaturals and what is as far below 0, and the ends of a word with their neighbours.
func edgeBigs() []impl.Big {
	var list []impl.Big
	for _, limbs := range edgeNaturals() {
		list = append(list, impl.Big{Limbs: limbs})
		if len(limbs) > 0 {
			list = append(list, impl.Big{Neg: true, Limbs: limbs})
		}
	}
	for _, plus := range []int64{-2, -1, 0, 1, 2} {
		end := new(big.Int).Lsh(big.NewInt(1), 63)
		end.Add(end, big.NewInt(plus))
		list = append(list, bigOf(end), bigOf(new(big.Int).Neg(end)))
	}
	return list
}
