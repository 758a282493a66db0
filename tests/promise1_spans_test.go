package tests

import (
	"math/big"
	"slices"
	"testing"

	"loop.example/g00742/impl"
)

// spanCall is a function of chapter 3, as one of a precision and two spans.
type spanCall struct {
	name    string
	precise bool
	both    bool
	run     func(p int64, a impl.Span, b impl.Span) answer
}

// ofSpan tells the signs of both ends as one value.
func ofSpan(r impl.SpanResult) answer {
	signs := int64(0)
	if r.Span.Low.Neg {
		signs += 1
	}
	if r.Span.High.Neg {
		signs += 2
	}
	return answer{code: r.Code, value: signs, lists: [][]int64{r.Span.Low.Limbs, r.Span.High.Limbs}}
}

func spanCalls() []spanCall {
	return []spanCall{
		{"SpanFault", false, false, func(p int64, a, b impl.Span) answer { return answer{code: impl.SpanFault(a)} }},
		{"AddSpan", false, true, func(p int64, a, b impl.Span) answer { return ofSpan(impl.AddSpan(a, b)) }},
		{"SubSpan", false, true, func(p int64, a, b impl.Span) answer { return ofSpan(impl.SubSpan(a, b)) }},
		{"MulSpan", true, true, func(p int64, a, b impl.Span) answer { return ofSpan(impl.MulSpan(p, a, b)) }},
		{"SquareSpan", true, false, func(p int64, a, b impl.Span) answer { return ofSpan(impl.SquareSpan(p, a)) }},
		{"DivSpan", true, true, func(p int64, a, b impl.Span) answer { return ofSpan(impl.DivSpan(p, a, b)) }},
		{"RootSpan", true, false, func(p int64, a, b impl.Span) answer { return ofSpan(impl.RootSpan(p, a)) }},
		{"HullSpan", false, true, func(p int64, a, b impl.Span) answer { return ofSpan(impl.HullSpan(a, b)) }},
		{"MeetSpan", false, true, func(p int64, a, b impl.Span) answer { return ofSpan(impl.MeetSpan(a, b)) }},
		{"OrderSpan", false, true, func(p int64, a, b impl.Span) answer { return answer{value: impl.OrderSpan(a, b)} }},
		{"IsWithin", false, true, func(p int64, a, b impl.Span) answer {
			if impl.IsWithin(a, b) {
				return answer{value: 1}
			}
			return answer{}
		}},
	}
}

// allSpanCalls are these and RatSpan, as a function of the ends of one span.
func allSpanCalls() []spanCall {
	return append(spanCalls(), spanCall{"RatSpan", true, false, func(p int64, a, b impl.Span) answer { return ofSpan(impl.RatSpan(p, a.Low, a.High)) }})
}

// precisionsOf are those with which the call has to be tried.
func (c spanCall) precisionsOf() []int64 {
	if c.precise {
		return precisions
	}
	return []int64{48}
}

// runOn is the call with the signs of a and b, as one of the limbs of their four ends.
func (c spanCall) runOn(p int64, a impl.Span, b impl.Span) func(lists [][]int64) answer {
	return func(lists [][]int64) answer {
		a.Low.Limbs, a.High.Limbs, b.Low.Limbs, b.High.Limbs = lists[0], lists[1], lists[2], lists[3]
		return c.run(p, a, b)
	}
}

// wantFault is what the call has to answer with this code; OrderSpan and IsWithin have none to tell.
func (c spanCall) wantFault(code int64) answer {
	lists := c.run(48, impl.Span{}, impl.Span{}).lists
	if c.name == "OrderSpan" || c.name == "IsWithin" {
		code = 0
	}
	return answer{code: code, lists: make([][]int64, len(lists))}
}

// faultySpan is a span with a fault, and the code that chapter 3 has for it.
type faultySpan struct {
	span impl.Span
	code int64
}

// faultySpans have each fault alone, and with each one that is asked later.
func faultySpans() []faultySpan {
	var list []faultySpan
	long := []impl.Big{bigOf(power(20, 0)), bigOf(negative(power(20, 0))), {Limbs: allLimbs(21, 65535)}, {Neg: true, Limbs: allLimbs(40, 65535)}}
	sound := append(long, impl.BigOf(0), impl.BigOf(5), impl.BigOf(-5))
	faults := []faultyBig{{impl.Big{Neg: true}, impl.ErrForm}, {impl.Big{Limbs: []int64{65536}}, impl.ErrRange}, {impl.Big{Limbs: allLimbs(41, 1)}, impl.ErrMany}}
	for _, f := range append(faults, faultyBigs()[:12]...) {
		for _, other := range sound {
			list = append(list, faultySpan{impl.Span{Low: f.big, High: other}, f.code}, faultySpan{impl.Span{Low: other, High: f.big}, f.code})
		}
		for _, other := range faults {
			list = append(list, faultySpan{impl.Span{Low: f.big, High: other.big}, f.code}, faultySpan{impl.Span{Low: other.big, High: f.big}, other.code})
		}
	}
	for _, a := range long {
		for _, b := range sound {
			list = append(list, faultySpan{impl.Span{Low: a, High: b}, impl.ErrMany}, faultySpan{impl.Span{Low: b, High: a}, impl.ErrMany})
		}
	}
	for _, ends := range [][2]int64{{1, 0}, {0, -1}, {1, -1}, {2, 1}, {-1, -2}, {65536, 65535}, {-65535, -65536}} {
		list = append(list, faultySpan{smallSpan(ends[0], ends[1]), impl.ErrForm})
	}
	greatest := impl.Big{Limbs: allLimbs(20, 65535)}
	least := impl.Big{Neg: true, Limbs: allLimbs(20, 65535)}
	return append(list, faultySpan{impl.Span{Low: greatest, High: least}, impl.ErrForm}, faultySpan{impl.Span{Low: greatest, High: bigOf(power(20, -2))}, impl.ErrForm})
}

// pureSpans are spans of all sizes, and some with each fault.
func pureSpans() []impl.Span {
	list := spansOf(bothSigns(big.NewInt(3), twoTo(72, 5), power(20, -1)))
	d := dice(11)
	for n := range 21 {
		list = append(list, d.span(n))
	}
	faults := faultySpans()
	for i := 0; i < len(faults); i += 17 {
		list = append(list, faults[i].span)
	}
	return list
}

// An answer shares no memory with an argument, and its two ends share none with each other.
func TestPromise1SpansPure(t *testing.T) {
	list := pureSpans()
	for _, c := range allSpanCalls() {
		for _, p := range append(c.precisionsOf(), 50) {
			for _, a := range list {
				others := list
				if !c.both {
					others = list[:1]
				}
				for _, b := range others {
					checkPure(t, c.name, c.runOn(p, a, b), a.Low.Limbs, a.High.Limbs, b.Low.Limbs, b.High.Limbs)
				}
			}
		}
	}
}

func TestPromise1SpansOfOneList(t *testing.T) {
	checkOneList(t, allSpanCalls())
}

// checkOneList lets all four ends be one list: what is answered is not.
func checkOneList(t *testing.T, calls []spanCall) {
	t.Helper()
	for _, limbs := range [][]int64{{}, {5}, {0, 0, 0, 1}, {0, 0, 0, 0, 256}, allLimbs(12, 65535), allLimbs(20, 65535), {65536}} {
		for _, neg := range []bool{false, true} {
			list := roomy(limbs)
			one := impl.Big{Neg: neg, Limbs: list}
			two := impl.Big{Neg: neg, Limbs: slices.Clone(limbs)}
			a := impl.Span{Low: one, High: one}
			for _, c := range calls {
				for _, p := range c.precisionsOf() {
					want := copyOf(c.run(p, impl.Span{Low: two, High: two}, impl.Span{Low: two, High: two}))
					got := c.run(p, a, a)
					if !sameAnswers(got, want) {
						t.Errorf("%s of one list %v: got %v, want %v", c.name, limbs, got, want)
					}
					for i := range got.lists {
						scribble(got.lists[i])
						if i == 0 && !slices.Equal(got.lists[1], want.lists[1]) {
							t.Errorf("%s of one list %v: the ends share memory", c.name, limbs)
						}
					}
					if !slices.Equal(list[:cap(list)], roomy(limbs)[:cap(list)]) {
						t.Fatalf("%s of one list %v: the answer shares it", c.name, limbs)
					}
				}
			}
		}
	}
}

// The faults are asked ahead of what is divided by 0, of a root below 0, of a meeting and of ErrFull.
func TestPromise1SpanFaults(t *testing.T) {
	checkSpanFaults(t, spanCalls())
}

// checkSpanFaults checks that the fault of a is asked ahead of that of b, and both ahead of the call's own codes.
func checkSpanFaults(t *testing.T, calls []spanCall) {
	t.Helper()
	faults := faultySpans()
	sound := append(spansOf(nearEnds(48)), spanOf(power(20, -1), power(20, -1)), spanOf(negative(power(20, -1)), power(20, -1)))
	for _, c := range calls {
		for i, f := range faults {
			want := c.wantFault(f.code)
			check := func(a, b impl.Span) {
				p := precisions[i%3]
				if got := c.run(p, a, b); !sameAnswers(got, want) {
					t.Errorf("%s with %d of %v and %v: got %v, want %v", c.name, p, a, b, got, want)
				}
			}
			for _, other := range faults {
				check(f.span, other.span)
			}
			for _, other := range sound {
				check(f.span, other)
				if c.both {
					check(other, f.span)
				}
			}
		}
	}
}

func TestPromise1NoPrecision(t *testing.T) {
	checkNoPrecision(t, allSpanCalls())
}

// checkNoPrecision checks that what is no precision is asked ahead of all else.
func checkNoPrecision(t *testing.T, calls []spanCall) {
	t.Helper()
	spans := pureSpans()
	for _, f := range faultySpans() {
		spans = append(spans, f.span)
	}
	for _, c := range calls {
		if !c.precise {
			continue
		}
		want := c.wantFault(impl.ErrRange)
		for _, p := range noPrecisions() {
			for i := 0; i < len(spans); i += 3 {
				a, b := spans[i], spans[len(spans)-1-i]
				if got := c.run(p, a, b); !sameAnswers(got, want) {
					t.Errorf("%s with %d of %v and %v: got %v, want %v", c.name, p, a, b, got, want)
				}
			}
		}
	}
}

// The BigFaults are asked first, then a den that is 0, then how many limbs there are, and last whether there is room.
func TestPromise1RatSpanFaults(t *testing.T) {
	long, greatest := bigOf(power(20, 0)), bigOf(power(20, -1))
	longNeg := impl.Big{Neg: true, Limbs: long.Limbs}
	sound := []impl.Big{impl.BigOf(0), impl.BigOf(1), impl.BigOf(-1), greatest, long, longNeg, {Limbs: allLimbs(40, 65535)}}
	check := func(num, den impl.Big, code int64) {
		for _, p := range precisions {
			want := answer{code: code, lists: make([][]int64, 2)}
			if got := ofSpan(impl.RatSpan(p, num, den)); !sameAnswers(got, want) {
				t.Errorf("RatSpan with %d of %v and %v: got %v, want %v", p, num, den, got, want)
			}
		}
	}
	for _, f := range faultyBigs() {
		for _, other := range sound {
			check(f.big, other, f.code)
			check(other, f.big, f.code)
		}
		for _, other := range faultyBigs() {
			check(f.big, other.big, f.code)
		}
	}
	for _, num := range sound {
		check(num, impl.Big{}, impl.ErrZero)
		check(num, impl.Big{Limbs: []int64{}}, impl.ErrZero)
		check(num, long, impl.ErrMany)
		check(num, longNeg, impl.ErrMany)
	}
	for _, den := range sound[1:] {
		check(long, den, impl.ErrMany)
		check(longNeg, den, impl.ErrMany)
	}
	check(greatest, impl.BigOf(1), impl.ErrFull)
}

func TestPromise1SpanBounds(t *testing.T) {
	if impl.MaxEnd != 20 {
		t.Error("MaxEnd")
	}
	for _, p := range precisions {
		for _, a := range spansOf(edgeEnds(p)) {
			if code := impl.SpanFault(a); code != impl.OK {
				t.Errorf("SpanFault of %v: got %d", a, code)
			}
		}
	}
	if code := impl.SpanFault(impl.Span{}); code != impl.OK {
		t.Errorf("SpanFault of the zero value: got %d", code)
	}
	checkEmptyEnds(t, allSpanCalls())
}

// checkEmptyEnds checks that nil and the empty list are the same number.
func checkEmptyEnds(t *testing.T, calls []spanCall) {
	t.Helper()
	empty := impl.Big{Limbs: []int64{}}
	for _, c := range calls {
		for _, p := range c.precisionsOf() {
			if !sameAnswers(c.run(p, impl.Span{}, impl.Span{}), c.run(p, impl.Span{Low: empty, High: empty}, impl.Span{Low: empty, High: empty})) {
				t.Errorf("%s: nil and the empty list differ", c.name)
			}
		}
	}
}

func TestPromise1LongSpans(t *testing.T) {
	checkLongSpans(t, spanCalls())
}

// checkLongSpans checks that lists of any length are answered.
func checkLongSpans(t *testing.T, calls []spanCall) {
	t.Helper()
	long := impl.Big{Limbs: allLimbs(1000000, 65535)}
	for _, c := range calls {
		if got := c.run(72, impl.Span{Low: long, High: long}, impl.Span{}); !sameAnswers(got, c.wantFault(impl.ErrMany)) {
			t.Errorf("%s of 1000000 limbs: got code %d", c.name, got.code)
		}
	}
}

func TestPromise1SpansKeepNothing(t *testing.T) {
	checkKeepsNothing(t, spanQuestions(allSpanCalls(), pureSpans()))
}

// spanQuestions ask each call of each span and another one.
func spanQuestions(calls []spanCall, list []impl.Span) []func() answer {
	var questions []func() answer
	for _, c := range calls {
		for _, p := range c.precisionsOf() {
			for i, a := range list {
				questions = append(questions, func() answer { return c.run(p, a, list[len(list)-1-i]) })
			}
		}
	}
	return questions
}
