package tests

import (
	"math/big"
	"testing"

	"loop.example/g00742/impl"
)

// angleCalls are the functions of chapter 4 that have spans, where that of y stands first.
func angleCalls() []spanCall {
	list := []spanCall{{"HalfTurn", true, true, func(p int64, y, x impl.Span) answer { return ofSpan(impl.HalfTurn(p, y, x)) }}}
	for _, c := range angleCases() {
		list = append(list, spanCall{c.name, true, false, func(p int64, x, other impl.Span) answer { return ofSpan(c.run(p, x)) }})
	}
	return list
}

// allAngleCalls are these, and those that have a precision alone.
func allAngleCalls() []spanCall {
	return append(angleCalls(),
		spanCall{"OneSpan", true, false, func(p int64, a, b impl.Span) answer { return ofSpan(impl.OneSpan(p)) }},
		spanCall{"PiSpan", true, false, func(p int64, a, b impl.Span) answer { return ofSpan(impl.PiSpan(p)) }},
	)
}

// pureAngles are spans of all kinds up to 7 away from 0, some that are farther, and some with a fault.
func pureAngles(p int64) []impl.Span {
	one := twoTo(p, 0)
	list := spansOf(bothSigns(big.NewInt(1), new(big.Int).Quo(one, big.NewInt(3)), one))
	d := dice(61)
	for n := range int64(9) {
		list = append(list, d.spanTo(product(one, big.NewInt(n))))
	}
	faults := faultySpans()
	for i := 0; i < len(faults); i += 40 {
		list = append(list, faults[i].span)
	}
	return append(list, spanOf(twoTo(320, -1), twoTo(320, -1)), spanOf(twoTo(319, 0), twoTo(320, -1)))
}

// An answer shares no memory with an argument, and its two ends share none with each other.
func TestPromise1AnglesPure(t *testing.T) {
	for _, c := range allAngleCalls() {
		for _, p := range append(c.precisionsOf(), 50) {
			list := pureAngles(p)
			for i, a := range list {
				for j, b := range list {
					// Each span is tried with a few others, and all of these come in turn.
					if (i+j)%7 == 0 || !c.both && j == 0 {
						checkPure(t, c.name, c.runOn(p, a, b), a.Low.Limbs, a.High.Limbs, b.Low.Limbs, b.High.Limbs)
					}
				}
			}
		}
	}
}

func TestPromise1AnglesOfOneList(t *testing.T) {
	checkOneList(t, allAngleCalls())
}

// The faults are asked ahead of an end that is too far, of a High below 0, and of what cannot be told.
func TestPromise1AngleFaults(t *testing.T) {
	checkSpanFaults(t, angleCalls())
	checkTurnedEnds(t, angleCalls())
}

// checkTurnedEnds checks that a Low above its High is asked ahead of where both ends are.
func checkTurnedEnds(t *testing.T, calls []spanCall) {
	t.Helper()
	for _, c := range calls {
		for _, p := range precisions {
			for _, a := range []impl.Span{wholeSpan(p, 9, 8), wholeSpan(p, 8, -8), wholeSpan(p, -8, -9), wholeSpan(p, 1, 0), wholeSpan(p, 0, -1)} {
				if got := c.run(p, a, impl.Span{}); !sameAnswers(got, c.wantFault(impl.ErrForm)) {
					t.Errorf("%s with %d of %v: got %v", c.name, p, a, got)
				}
			}
		}
	}
}

// Of y and x with faults that of y is told, whatever x would be told by itself, and that of x ahead of HalfTurn's own codes.
func TestPromise1HalfTurnFaults(t *testing.T) {
	long, turned := spanOf(power(20, 0), power(20, 0)), smallSpan(1, 0)
	limb := impl.Span{High: impl.Big{Limbs: []int64{65536}}}
	below, zero, sound := smallSpan(-2, -1), impl.Span{}, smallSpan(1, 1)
	cases := []struct {
		y, x impl.Span
		code int64
	}{
		{long, limb, impl.ErrMany}, {limb, long, impl.ErrRange}, {turned, long, impl.ErrForm}, {long, turned, impl.ErrMany}, {turned, limb, impl.ErrForm}, {limb, turned, impl.ErrRange},
		{turned, below, impl.ErrForm}, {below, turned, impl.ErrForm}, {long, below, impl.ErrMany}, {below, long, impl.ErrMany},
		{turned, zero, impl.ErrForm}, {zero, turned, impl.ErrForm}, {zero, long, impl.ErrMany}, {sound, turned, impl.ErrForm}, {turned, sound, impl.ErrForm},
		{below, zero, impl.ErrRange}, {zero, below, impl.ErrRange}, {below, below, impl.ErrRange}, {zero, zero, impl.ErrZero},
	}
	for _, c := range cases {
		for _, p := range precisions {
			checkSpanCode(t, "HalfTurn", impl.HalfTurn(p, c.y, c.x), c.code)
		}
		checkSpanCode(t, "HalfTurn with 50", impl.HalfTurn(50, c.y, c.x), impl.ErrRange)
	}
}

func TestPromise1AnglesNoPrecision(t *testing.T) {
	checkNoPrecision(t, allAngleCalls())
}

func TestPromise1AnglesEmptyEnds(t *testing.T) {
	checkEmptyEnds(t, allAngleCalls())
}

func TestPromise1LongAngles(t *testing.T) {
	checkLongSpans(t, angleCalls())
}

func TestPromise1AnglesKeepNothing(t *testing.T) {
	checkKeepsNothing(t, spanQuestions(allAngleCalls(), pureAngles(72)))
}
