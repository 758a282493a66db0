package tests

import (
	"testing"

	"loop.example/g00742/impl"
)

// pointCall is a function of chapter 5, or TurnOf of chapter 6, as one of a precision and two points.
type pointCall struct {
	name    string
	precise bool
	both    bool
	run     func(p int64, a impl.Point, b impl.Point) answer
}

func ofRange(r impl.RangeResult) answer {
	return answer{code: r.Code, value: r.Range.Low, high: r.Range.High}
}

// ofVector tells the lists of all three spans, and their signs as one value.
func ofVector(r impl.VectorResult) answer {
	all := answer{code: r.Code}
	for _, axis := range []impl.Span{r.Vector.X, r.Vector.Y, r.Vector.Z} {
		one := ofSpan(impl.SpanResult{Span: axis})
		all.value = all.value*4 + one.value
		all.lists = append(all.lists, one.lists...)
	}
	return all
}

func pointCalls() []pointCall {
	return []pointCall{
		{"PointFault", false, false, func(p int64, a, b impl.Point) answer { return answer{code: impl.PointFault(a)} }},
		{"IsSamePlace", false, true, func(p int64, a, b impl.Point) answer {
			if impl.IsSamePlace(a, b) {
				return answer{value: 1}
			}
			return answer{}
		}},
		{"VectorOf", true, false, func(p int64, a, b impl.Point) answer { return ofVector(impl.VectorOf(p, a)) }},
		{"TurnOf", true, true, func(p int64, a, b impl.Point) answer { return ofSpan(impl.TurnOf(p, a, b)) }},
		{"AngleOf", true, true, func(p int64, a, b impl.Point) answer { return ofSpan(impl.AngleOf(p, a, b)) }},
		{"DistanceOf", true, true, func(p int64, a, b impl.Point) answer { return ofRange(impl.DistanceOf(p, a, b)) }},
	}
}

// allPointCalls are these and RadSpan, as a function of the Lon of one point.
func allPointCalls() []pointCall {
	return append(pointCalls(), pointCall{"RadSpan", true, false, func(p int64, a, b impl.Point) answer { return ofSpan(impl.RadSpan(p, a.Lon)) }})
}

// metresCalls is MetresOf, as one of the functions of a span.
func metresCalls() []spanCall {
	return []spanCall{{"MetresOf", true, false, func(p int64, a, b impl.Span) answer { return ofRange(impl.MetresOf(p, a)) }}}
}

// precisionsOf are those with which the call has to be tried.
func (c pointCall) precisionsOf() []int64 {
	if c.precise {
		return precisions
	}
	return []int64{48}
}

// wantFault is what the call has to answer with this code; IsSamePlace has none to tell.
func (c pointCall) wantFault(code int64) answer {
	if c.name == "IsSamePlace" {
		return answer{}
	}
	return answer{code: code, lists: make([][]int64, len(c.run(48, impl.Point{}, impl.Point{}).lists))}
}

// purePoints are some points, and some with a fault.
func purePoints() []impl.Point {
	list := somePoints()
	faults := faultyPoints()
	for i := 0; i < len(faults); i += 9 {
		list = append(list, faults[i])
	}
	return list
}

// No two lists of an answer share memory, and no two answers.
func TestPromise1PointsPure(t *testing.T) {
	list := purePoints()
	for _, c := range allPointCalls() {
		for _, p := range append(c.precisionsOf(), 50) {
			for i, a := range list {
				for j, b := range list {
					// Each point is tried with a few others, and all of these come in turn.
					if (i+j)%13 == 0 || !c.both && j == 0 {
						checkPure(t, c.name, func([][]int64) answer { return c.run(p, a, b) })
					}
				}
			}
		}
	}
}

// A fault of either point is told, whatever the other one is.
func TestPromise1PointFaults(t *testing.T) {
	faults := faultyPoints()
	for _, c := range pointCalls() {
		want := c.wantFault(impl.ErrRange)
		for _, p := range append(c.precisionsOf(), 50) {
			check := func(a, b impl.Point) {
				if got := c.run(p, a, b); !sameAnswers(got, want) {
					t.Errorf("%s with %d of %v and %v: got %v, want %v", c.name, p, a, b, got, want)
				}
			}
			for _, a := range faults {
				for _, b := range append(edgePoints(), faults...) {
					check(a, b)
					if c.both {
						check(b, a)
					}
				}
			}
		}
	}
}

func TestPromise1PointsNoPrecision(t *testing.T) {
	list := purePoints()
	for _, c := range allPointCalls() {
		if !c.precise {
			continue
		}
		want := c.wantFault(impl.ErrRange)
		for _, p := range noPrecisions() {
			for i, a := range list {
				b := list[len(list)-1-i]
				if got := c.run(p, a, b); !sameAnswers(got, want) {
					t.Errorf("%s with %d of %v and %v: got %v, want %v", c.name, p, a, b, got, want)
				}
			}
		}
	}
}

func TestPromise1PointsKeepNothing(t *testing.T) {
	list := purePoints()
	var questions []func() answer
	for _, c := range allPointCalls() {
		for _, p := range c.precisionsOf() {
			for i, a := range list {
				questions = append(questions, func() answer { return c.run(p, a, list[len(list)-1-i]) })
			}
		}
	}
	checkKeepsNothing(t, questions)
}

func TestPromise1MetresPure(t *testing.T) {
	for _, c := range metresCalls() {
		for _, p := range append(c.precisionsOf(), 50) {
			for _, a := range pureAngles(p) {
				checkPure(t, c.name, c.runOn(p, a, impl.Span{}), a.Low.Limbs, a.High.Limbs, nil, nil)
			}
		}
	}
	checkKeepsNothing(t, spanQuestions(metresCalls(), pureAngles(72)))
}

// The faults are asked ahead of an end that is too far, and of a Low below 0.
func TestPromise1MetresFaults(t *testing.T) {
	checkSpanFaults(t, metresCalls())
	checkTurnedEnds(t, metresCalls())
	checkNoPrecision(t, metresCalls())
	checkEmptyEnds(t, metresCalls())
	checkLongSpans(t, metresCalls())
	checkOneList(t, metresCalls())
}
