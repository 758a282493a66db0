package tests

import (
	"math"
	"slices"
	"testing"

	"loop.example/g00742/impl"
)

// bigCall is a function of chapter 2, as one of two bigs.
type bigCall struct {
	name string
	both bool
	run  func(a impl.Big, b impl.Big) answer
}

func ofBig(r impl.BigResult) answer {
	return answer{code: r.Code, neg: r.Big.Neg, lists: [][]int64{r.Big.Limbs}}
}

func bigCalls() []bigCall {
	return []bigCall{
		{"BigFault", false, func(a, b impl.Big) answer { return answer{code: impl.BigFault(a)} }},
		{"BigValue", false, func(a, b impl.Big) answer {
			r := impl.BigValue(a)
			return answer{code: r.Code, value: r.Value}
		}},
		{"BigText", false, func(a, b impl.Big) answer {
			r := impl.BigText(a)
			return answer{code: r.Code, text: r.Text}
		}},
		{"FloorRoot", false, func(a, b impl.Big) answer { return ofBig(impl.FloorRoot(a)) }},
		{"CeilRoot", false, func(a, b impl.Big) answer { return ofBig(impl.CeilRoot(a)) }},
		{"AddBigs", true, func(a, b impl.Big) answer { return ofBig(impl.AddBigs(a, b)) }},
		{"SubBigs", true, func(a, b impl.Big) answer { return ofBig(impl.SubBigs(a, b)) }},
		{"MulBigs", true, func(a, b impl.Big) answer { return ofBig(impl.MulBigs(a, b)) }},
		{"FloorDiv", true, func(a, b impl.Big) answer { return ofBig(impl.FloorDiv(a, b)) }},
		{"CeilDiv", true, func(a, b impl.Big) answer { return ofBig(impl.CeilDiv(a, b)) }},
		{"CompareBigs", true, func(a, b impl.Big) answer { return answer{value: impl.CompareBigs(a, b)} }},
		{"SameBigs", true, func(a, b impl.Big) answer {
			if impl.SameBigs(a, b) {
				return answer{value: 1}
			}
			return answer{}
		}},
	}
}

// signedCalls are the functions of chapter 2 as ones of two lists, with each sign of these.
func signedCalls() []call {
	var list []call
	for _, c := range bigCalls() {
		for _, negA := range []bool{false, true} {
			for _, negB := range []bool{false, true} {
				if negB && !c.both {
					continue
				}
				list = append(list, call{c.name + signName(negA) + signName(negB), c.both, func(a, b []int64) answer {
					return c.run(impl.Big{Neg: negA, Limbs: a}, impl.Big{Neg: negB, Limbs: b})
				}})
			}
		}
	}
	return list
}

func signName(neg bool) string {
	if neg {
		return " -"
	}
	return " +"
}

// faultyBig is a big with a fault, and the code that chapter 2 has for it.
type faultyBig struct {
	big  impl.Big
	code int64
}

// faultyBigs have each fault, with both signs: those of the limbs are asked ahead of that of the sign.
func faultyBigs() []faultyBig {
	list := []faultyBig{{impl.Big{Neg: true}, impl.ErrForm}, {impl.Big{Neg: true, Limbs: []int64{}}, impl.ErrForm}}
	for _, f := range faultyNaturals(impl.ErrMany, impl.ErrRange, impl.ErrForm) {
		list = append(list, faultyBig{impl.Big{Limbs: f.limbs}, f.code}, faultyBig{impl.Big{Neg: true, Limbs: f.limbs}, f.code})
	}
	return list
}

// checkBigFault checks that a call of bigs tells this code and nothing else; CompareBigs has none to tell.
func checkBigFault(t *testing.T, c bigCall, a impl.Big, b impl.Big, code int64) {
	t.Helper()
	want := answer{code: code, lists: make([][]int64, len(c.run(impl.Big{}, impl.Big{}).lists))}
	if c.name == "CompareBigs" {
		want.code = 0
	}
	if got := c.run(a, b); !sameAnswers(got, want) {
		t.Errorf("%s of %v and %v: got %v, want %v", c.name, a, b, got, want)
	}
}

// The fault of a is asked ahead of that of b, and both ahead of a divisor that is 0 and of a root of what is below 0.
func TestPromise1BigFaults(t *testing.T) {
	faults, sound := faultyBigs(), edgeBigs()
	for _, c := range bigCalls() {
		if c.name == "SameBigs" {
			continue
		}
		for _, f := range faults {
			for _, other := range faults {
				checkBigFault(t, c, f.big, other.big, f.code)
			}
			for _, other := range sound {
				checkBigFault(t, c, f.big, other, f.code)
				if c.both {
					checkBigFault(t, c, other, f.big, f.code)
				}
			}
		}
	}
}

func TestPromise1BigBounds(t *testing.T) {
	for _, a := range edgeBigs() {
		if code := impl.BigFault(a); code != impl.OK {
			t.Errorf("BigFault of %v: got %d", a, code)
		}
	}
}

func TestPromise1BigOf(t *testing.T) {
	for _, n := range []int64{0, 1, -1, 65536, -65536, math.MaxInt64, math.MinInt64} {
		want := slices.Clone(impl.BigOf(n).Limbs)
		scribble(impl.BigOf(n).Limbs)
		if got := impl.BigOf(n); got.Neg != (n < 0) || !slices.Equal(got.Limbs, want) {
			t.Errorf("BigOf %d: got the limbs %v, and then %v", n, want, got)
		}
	}
}

// Each big may be any list of limbs, and is the same as itself alone.
func TestPromise1SameBigs(t *testing.T) {
	limbs := [][]int64{
		nil, {0}, {0, 0}, {1}, {1, 0}, {0, 1}, {257}, {256}, {65535}, {-1}, {65536}, {65537}, {1, 1}, {1, 2}, {2, 1}, {-1, -1},
		{1 << 32}, {1 << 32, 0}, {1<<32 + 1}, {1 << 56}, {1 << 62}, {math.MaxInt64}, {math.MinInt64}, {math.MinInt64 + 1}, {55296}, {57343}, {65533},
		allLimbs(40, 7), allLimbs(41, 7), append(allLimbs(40, 7), 8), append(allLimbs(41, 7), 8), allLimbs(1000, 7),
	}
	for i, a := range limbs {
		for j, b := range limbs {
			for _, negA := range []bool{false, true} {
				for _, negB := range []bool{false, true} {
					x, y := impl.Big{Neg: negA, Limbs: a}, impl.Big{Neg: negB, Limbs: slices.Clone(b)}
					if got := impl.SameBigs(x, y); got != (i == j && negA == negB) {
						t.Errorf("SameBigs of %v and %v: got %v", x, y, got)
					}
				}
			}
		}
	}
	if !impl.SameBigs(impl.Big{}, impl.Big{Limbs: []int64{}}) {
		t.Error("SameBigs: nil and the empty list differ")
	}
}

// Lists of any length are answered.
func TestPromise1LongBigs(t *testing.T) {
	long := impl.Big{Neg: true, Limbs: make([]int64, 1000000)}
	if code := impl.BigFault(long); code != impl.ErrMany {
		t.Errorf("BigFault of 1000000 limbs: got %d", code)
	}
	other := impl.Big{Neg: true, Limbs: slices.Clone(long.Limbs)}
	if !impl.SameBigs(long, other) {
		t.Error("SameBigs of 1000000 limbs and their copy: got false")
	}
	other.Limbs[999999] = 1
	if impl.SameBigs(long, other) {
		t.Error("SameBigs of 1000000 limbs, the last one of which differs: got true")
	}
}
