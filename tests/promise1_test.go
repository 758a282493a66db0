package tests

import (
	"math"
	"reflect"
	"slices"
	"strings"
	"testing"

	"loop.example/g00742/impl"
)

// answer is what any function answers: its numbers and text, its sign, and its lists.
type answer struct {
	code  int64
	value int64
	high  int64
	text  string
	neg   bool
	lists [][]int64
}

// call is a function, as one of two lists.
type call struct {
	name string
	both bool
	run  func(a []int64, b []int64) answer
}

func ofNat(r impl.NatResult) answer {
	return answer{code: r.Code, lists: [][]int64{r.Limbs}}
}

// calls are the functions of the chapters whose arguments are two lists, or can be told by these.
func calls() []call {
	return append(natCalls(), signedCalls()...)
}

// natCalls are the functions of chapter 1.
func natCalls() []call {
	return []call{
		{"NatFault", false, func(a, b []int64) answer { return answer{code: impl.NatFault(a)} }},
		{"NatValue", false, func(a, b []int64) answer {
			r := impl.NatValue(a)
			return answer{code: r.Code, value: r.Value}
		}},
		{"NatText", false, func(a, b []int64) answer {
			r := impl.NatText(a)
			return answer{code: r.Code, text: r.Text}
		}},
		{"AddNats", true, func(a, b []int64) answer { return ofNat(impl.AddNats(a, b)) }},
		{"SubNats", true, func(a, b []int64) answer { return ofNat(impl.SubNats(a, b)) }},
		{"MulNats", true, func(a, b []int64) answer { return ofNat(impl.MulNats(a, b)) }},
		{"DivNats", true, func(a, b []int64) answer {
			r := impl.DivNats(a, b)
			return answer{code: r.Code, lists: [][]int64{r.Quot, r.Rest}}
		}},
		{"CompareNats", true, func(a, b []int64) answer { return answer{value: impl.CompareNats(a, b)} }},
	}
}

func sameAnswers(x answer, y answer) bool {
	return x.code == y.code && x.value == y.value && x.high == y.high && x.text == y.text && x.neg == y.neg && slices.EqualFunc(x.lists, y.lists, slices.Equal)
}

func copyOf(x answer) answer {
	lists := make([][]int64, len(x.lists))
	for i, list := range x.lists {
		lists[i] = slices.Clone(list)
	}
	x.lists = lists
	return x
}

// scribble writes over all the memory that a list can be grown into.
func scribble(list []int64) {
	list = list[:cap(list)]
	for i := range list {
		list[i] = filler
	}
}

// roomy is a copy with room behind it that is not the list's.
func roomy(list []int64) []int64 {
	room := make([]int64, len(list)+5)
	scribble(room)
	copy(room, list)
	return room[:len(list)]
}

// promise1Lists are naturals of all sizes and lists with each fault.
func promise1Lists() [][]int64 {
	list := edgeNaturals()
	for _, f := range faultyNaturals(impl.ErrMany, impl.ErrRange, impl.ErrForm) {
		list = append(list, f.limbs)
	}
	d := dice(1)
	for n := range 41 {
		list = append(list, d.natural(n))
	}
	return list
}

// checkPure checks that one call changes no argument, shares no memory, and answers the same again.
func checkPure(t *testing.T, name string, run func(lists [][]int64) answer, given ...[]int64) {
	t.Helper()
	lists, clipped := make([][]int64, len(given)), make([][]int64, len(given))
	for i, list := range given {
		lists[i], clipped[i] = roomy(list), slices.Clip(list)
	}
	first := run(lists)
	want := copyOf(first)
	unchanged := func(what string) {
		for i, list := range lists {
			if !slices.Equal(list[:cap(list)], roomy(given[i])[:cap(list)]) {
				t.Errorf("%s of %v: %s", name, given, what)
			}
		}
	}
	unchanged("an argument is changed")
	second := run(lists)
	for i := range second.lists {
		scribble(second.lists[i])
		for j := range second.lists {
			if j > i && !slices.Equal(second.lists[j], want.lists[j]) {
				t.Errorf("%s of %v: two lists share memory", name, given)
			}
		}
	}
	unchanged("the answer shares memory with an argument")
	if !sameAnswers(first, want) {
		t.Errorf("%s of %v: two answers share memory", name, given)
	}
	for _, list := range lists {
		scribble(list)
	}
	if !sameAnswers(first, want) {
		t.Errorf("%s of %v: the answer is kept in an argument", name, given)
	}
	if got := run(clipped); !sameAnswers(got, want) {
		t.Errorf("%s of %v: got %v, and then %v", name, given, want, got)
	}
}

// runOn is the call, as one of a list of lists.
func (c call) runOn(lists [][]int64) answer {
	return c.run(lists[0], lists[1])
}

func TestPromise1Pure(t *testing.T) {
	list := promise1Lists()
	for _, c := range calls() {
		for _, a := range list {
			if !c.both {
				checkPure(t, c.name, c.runOn, a, nil)
				continue
			}
			for _, b := range list {
				checkPure(t, c.name, c.runOn, a, b)
			}
		}
	}
}

// One list may be both arguments, or a part of the other one.
func TestPromise1SharedArguments(t *testing.T) {
	whole := append([]int64{3}, allLimbs(20, 65535)...)
	parts := [][]int64{whole, whole[1:], whole[:7], whole[5:9], whole[:0]}
	before := slices.Clone(whole)
	for _, c := range calls() {
		for _, a := range parts {
			for _, b := range parts {
				want := c.run(slices.Clone(a), slices.Clone(b))
				if got := c.run(a, b); !sameAnswers(got, want) || !slices.Equal(whole, before) {
					t.Errorf("%s of %v and %v that share memory: got %v, want %v", c.name, a, b, got, want)
				}
			}
		}
	}
}

func TestPromise1NilIsEmpty(t *testing.T) {
	for _, c := range calls() {
		for _, other := range [][]int64{nil, {}, {5}, {65536}} {
			if !sameAnswers(c.run(nil, other), c.run([]int64{}, other)) || !sameAnswers(c.run(other, nil), c.run(other, []int64{})) {
				t.Errorf("%s: nil and the empty list differ beside %v", c.name, other)
			}
		}
	}
}

// What is answered with a code is zero but for the code; the fault of a is asked ahead of that of b, and both ahead of all else.
func TestPromise1Faults(t *testing.T) {
	faults := faultyNaturals(impl.ErrMany, impl.ErrRange, impl.ErrForm)
	for _, f := range faults {
		for _, c := range natCalls() {
			want := answer{code: f.code, lists: make([][]int64, len(c.run(nil, nil).lists))}
			if c.name == "CompareNats" {
				want.code = 0
			}
			others := append(edgeNaturals(), f.limbs)
			for _, other := range faults {
				others = append(others, other.limbs)
			}
			for _, other := range others {
				if got := c.run(f.limbs, other); !sameAnswers(got, want) {
					t.Errorf("%s of %v and %v: got %v, want %v", c.name, f.limbs, other, got, want)
				}
			}
			if !c.both {
				continue
			}
			for _, other := range edgeNaturals() {
				if got := c.run(other, f.limbs); !sameAnswers(got, want) {
					t.Errorf("%s of %v and %v: got %v, want %v", c.name, other, f.limbs, got, want)
				}
			}
		}
	}
}

func TestPromise1Bounds(t *testing.T) {
	for _, a := range edgeNaturals() {
		if code := impl.NatFault(a); code != impl.OK {
			t.Errorf("NatFault of %v: got %d", a, code)
		}
	}
	if impl.MaxLimbs != 40 || impl.Base != 65536 {
		t.Error("MaxLimbs, Base")
	}
	codes := []int64{impl.OK, impl.ErrForm, impl.ErrMany, impl.ErrRange, impl.ErrNone, impl.ErrText, impl.ErrZero, impl.ErrFull, impl.ErrTaken}
	for i, code := range codes {
		if code != int64(i) {
			t.Errorf("code %d is %d", i, code)
		}
	}
}

func TestPromise1NatOf(t *testing.T) {
	for _, n := range []int64{0, 1, 65535, 65536, math.MaxInt64, -1, math.MinInt64} {
		want := copyOf(ofNat(impl.NatOf(n)))
		scribble(impl.NatOf(n).Limbs)
		if got := ofNat(impl.NatOf(n)); !sameAnswers(got, want) {
			t.Errorf("NatOf %d: got %v, and then %v", n, want, got)
		}
	}
}

func TestPromise1ReadNat(t *testing.T) {
	texts := append(wrongTexts(), "0", "7", "65536", power(40, -1).String(), power(40, 0).String())
	for _, text := range texts {
		want := copyOf(ofNat(impl.ReadNat(text)))
		scribble(impl.ReadNat(text).Limbs)
		if got := ofNat(impl.ReadNat(text)); !sameAnswers(got, want) {
			t.Errorf("ReadNat of %q: got %v, and then %v", text, want, got)
		}
	}
}

// A text of any length is answered in about the time that it takes to look at it.
func TestPromise1LongTexts(t *testing.T) {
	long := strings.Repeat("8", 10000000)
	for text, code := range map[string]int64{long: impl.ErrFull, long + "x": impl.ErrText, "0" + long: impl.ErrText} {
		if got := impl.ReadNat(text); got.Code != code || len(got.Limbs) != 0 {
			t.Errorf("a text of %d bytes: got code %d, want %d", len(text), got.Code, code)
		}
	}
	if code := impl.NatFault(make([]int64, 10000000)); code != impl.ErrMany {
		t.Errorf("a list of 10000000 limbs: got code %d", code)
	}
}

// checkKeepsNothing checks that no answer hangs on what was asked ahead of it.
func checkKeepsNothing(t *testing.T, questions []func() answer) {
	t.Helper()
	ask := func() []answer {
		var answers []answer
		for _, question := range questions {
			answers = append(answers, copyOf(question()))
		}
		return answers
	}
	first := ask()
	slices.Reverse(questions)
	turned := ask()
	slices.Reverse(questions)
	again := ask()
	slices.Reverse(turned)
	if !reflect.DeepEqual(first, turned) || !reflect.DeepEqual(first, again) {
		t.Error("the same calls answer otherwise in another order, or a second time")
	}
}

func TestPromise1KeepsNothing(t *testing.T) {
	list := promise1Lists()
	var questions []func() answer
	for _, c := range calls() {
		for i, a := range list {
			questions = append(questions, func() answer { return c.run(a, list[len(list)-1-i]) })
		}
	}
	checkKeepsNothing(t, questions)
}
