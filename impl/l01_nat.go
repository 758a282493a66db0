package impl

import (
	"math"
	"slices"
)

const OK = 0
const ErrForm = 1
const ErrMany = 2
const ErrRange = 3
const ErrNone = 4
const ErrText = 5
const ErrZero = 6
const ErrFull = 7
const ErrTaken = 8
const Base = 65536
const MaxLimbs = 40

type IntResult struct {
	Code  int64
	Value int64
}
type NatResult struct {
	Code  int64
	Limbs []int64
}
type DivResult struct {
	Code int64
	Quot []int64
	Rest []int64
}
type TextResult struct {
	Code int64
	Text string
}

// limbBits is how many bits a limb has: Base is 2 to the power of it.
const limbBits = 16

func NatFault(a []int64) int64 {
	if len(a) > MaxLimbs {
		return ErrMany
	}
	for _, limb := range a {
		if !inOrder(0, limb, Base-1) {
			return ErrRange
		}
	}
	if len(a) > 0 && a[len(a)-1] == 0 {
		return ErrForm
	}
	return OK
}

func NatOf(n int64) NatResult {
	if n < 0 {
		return NatResult{Code: ErrRange}
	}
	var limbs []int64
	for ; n > 0; n /= Base {
		limbs = append(limbs, n%Base)
	}
	return NatResult{Limbs: limbs}
}

func NatValue(a []int64) IntResult {
	if code := NatFault(a); code != OK {
		return IntResult{Code: code}
	}
	value := int64(0)
	for i := len(a) - 1; i >= 0; i-- {
		if value > (math.MaxInt64-a[i])/Base {
			return IntResult{Code: ErrFull}
		}
		value = value*Base + a[i]
	}
	return IntResult{Value: value}
}

func AddNats(a []int64, b []int64) NatResult {
	if code := firstFault(NatFault, a, b); code != OK {
		return NatResult{Code: code}
	}
	sum := make([]int64, max(len(a), len(b))+1)
	copy(sum, a)
	addTimes(sum, b, 1)
	return natResult(sum)
}

func SubNats(a []int64, b []int64) NatResult {
	if code := firstFault(NatFault, a, b); code != OK {
		return NatResult{Code: code}
	}
	if CompareNats(a, b) < 0 {
		return NatResult{Code: ErrRange}
	}
	rest := slices.Clone(a)
	addTimes(rest, b, -1)
	return natResult(rest)
}

func MulNats(a []int64, b []int64) NatResult {
	if code := firstFault(NatFault, a, b); code != OK {
		return NatResult{Code: code}
	}
	product := make([]int64, len(a)+len(b))
	for i, limb := range a {
		addTimes(product[i:i+len(b)+1], b, limb)
	}
	return natResult(product)
}

func DivNats(a []int64, b []int64) DivResult {
	if code := firstFault(NatFault, a, b); code != OK {
		return DivResult{Code: code}
	}
	if len(b) == 0 {
		return DivResult{Code: ErrZero}
	}
	// A 0 above a lets the first step look one limb above b, as all the others do.
	rest := make([]int64, len(a)+1)
	copy(rest, a)
	quot := make([]int64, len(a))
	for i := len(a) - len(b); i >= 0; i-- {
		quot[i] = takeQuotLimb(rest[i:i+len(b)+1], b)
	}
	return DivResult{Quot: trimLimbs(quot), Rest: trimLimbs(rest)}
}

func CompareNats(a []int64, b []int64) int64 {
	if firstFault(NatFault, a, b) != OK {
		return 0
	}
	for i := max(len(a), len(b)) - 1; i >= 0; i-- {
		if limbAt(a, i) < limbAt(b, i) {
			return -1
		}
		if limbAt(a, i) > limbAt(b, i) {
			return 1
		}
	}
	return 0
}

func NatText(a []int64) TextResult {
	if code := NatFault(a); code != OK {
		return TextResult{Code: code}
	}
	if len(a) == 0 {
		return TextResult{Text: "0"}
	}
	left := slices.Clone(a)
	var digits []byte
	for len(left) > 0 {
		digits = append(digits, byte('0'+takeTenth(left)))
		left = trimLimbs(left)
	}
	slices.Reverse(digits)
	return TextResult{Text: string(digits)}
}

func ReadNat(text string) NatResult {
	if !isNatText(text) {
		return NatResult{Code: ErrText}
	}
	var limbs []int64
	for _, digit := range text {
		limbs = tenTimesAnd(limbs, int64(digit-'0'))
		// Asked at each digit, so that a long text costs no more than its length.
		if len(limbs) > MaxLimbs {
			return NatResult{Code: ErrFull}
		}
	}
	return NatResult{Limbs: limbs}
}

// inOrder tells that no number is above the one behind it; with a number between its two bounds, that it keeps to them.
func inOrder(numbers ...int64) bool {
	for i := 1; i < len(numbers); i++ {
		if numbers[i-1] > numbers[i] {
			return false
		}
	}
	return true
}

// firstFault is the first code that fault tells of these.
func firstFault[T any](fault func(T) int64, list ...T) int64 {
	for _, each := range list {
		if code := fault(each); code != OK {
			return code
		}
	}
	return OK
}

// natResult is the answer that these limbs are, where the zeros at their top do not count.
func natResult(limbs []int64) NatResult {
	limbs = trimLimbs(limbs)
	if len(limbs) > MaxLimbs {
		return NatResult{Code: ErrFull}
	}
	return NatResult{Limbs: limbs}
}

// trimLimbs leaves out the zeros at the top.
func trimLimbs(limbs []int64) []int64 {
	n := len(limbs)
	for n > 0 && limbs[n-1] == 0 {
		n--
	}
	return limbs[:n]
}

// limbAt is the limb at that place, where all places that a does not have hold 0.
func limbAt(a []int64, place int) int64 {
	if place < 0 || place >= len(a) {
		return 0
	}
	return a[place]
}

// addTimes puts so many times b to the limbs of sum, and answers what is carried out at their top.
// times may be below 0, and so may what is carried: masking and shifting round down, as dividing would not.
func addTimes(sum []int64, b []int64, times int64) int64 {
	carry := int64(0)
	for i := range sum {
		carry += sum[i] + times*limbAt(b, i)
		sum[i] = carry & (Base - 1)
		carry >>= limbBits
	}
	return carry
}

// takeQuotLimb answers how many times b is in rest, which is below Base times b and has one limb more than b, and leaves in rest what is left.
func takeQuotLimb(rest []int64, b []int64) int64 {
	guess := guessQuotLimb(rest, b)
	carry := addTimes(rest, b, -guess)
mend:
	if carry < 0 {
		guess--
		carry += addTimes(rest, b, 1)
		goto mend
	}
	return guess
}

// guessQuotLimb divides by the two highest limbs of b alone: that is never too small, and too great by one at most.
func guessQuotLimb(rest []int64, b []int64) int64 {
	top := len(b)
	high := (limbAt(rest, top)*Base+limbAt(rest, top-1))*Base + limbAt(rest, top-2)
	return high / (limbAt(b, top-1)*Base + limbAt(b, top-2))
}

// takeTenth divides limbs by 10 in place, rounded down, and answers the digit that is left.
func takeTenth(limbs []int64) int64 {
	left := int64(0)
	for i := len(limbs) - 1; i >= 0; i-- {
		left = left*Base + limbs[i]
		limbs[i] = left / 10
		left %= 10
	}
	return left
}

// isNatText tells that text is decimal digits with no 0 ahead, but for 0 itself.
func isNatText(text string) bool {
	if text == "" || text[0] == '0' && text != "0" {
		return false
	}
	for _, digit := range text {
		if !inOrder('0', int64(digit), '9') {
			return false
		}
	}
	return true
}

// tenTimesAnd multiplies limbs by 10 in place and adds digit; what it answers may have one limb more.
func tenTimesAnd(limbs []int64, digit int64) []int64 {
	carry := digit
	for i := range limbs {
		carry += limbs[i] * 10
		limbs[i] = carry % Base
		carry /= Base
	}
	if carry > 0 {
		limbs = append(limbs, carry)
	}
	return limbs
}
