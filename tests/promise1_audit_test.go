package tests

import (
	"fmt"
	"math"
	"testing"

	"loop.example/g00742/impl"
)

// ofCheck is 1 if it is so.
func ofCheck(isSo bool) answer {
	if isSo {
		return answer{value: 1}
	}
	return answer{}
}

// sureCall is IsSure, as one of two lists of points.
func sureCall(far int64) listCall {
	return listCall{fmt.Sprintf("IsSure at %d", far), false, true, func(p int64, a, b []impl.Point) answer {
		return ofCheck(impl.IsSure(a, b, far))
	}}
}

// auditCalls are the functions of chapter 10 that ask of lists.
func auditCalls() []listCall {
	return []listCall{
		{"IsNested", false, true, func(p int64, a, b []impl.Point) answer { return ofCheck(impl.IsNested(a, b)) }},
		{"WorstWidth", false, false, func(p int64, a, b []impl.Point) answer {
			r := impl.WorstWidth(a)
			return answer{code: r.Code, value: r.Width}
		}},
		sureCall(0), sureCall(5000 * 1000000000),
	}
}

// The faults of both lists and that of far each make it false, alone and together.
func TestPromise1SureFaults(t *testing.T) {
	d := dice(201)
	sound := [][]impl.Point{d.places(1), d.places(7), d.places(mostPoints)}
	for i, far := range badFars() {
		c := sureCall(far)
		for j, f := range faultyLists(impl.ErrMany, impl.ErrRange) {
			other := sound[(i+j)%len(sound)]
			c.check(t, 0, f.list, other, answer{})
			c.check(t, 0, other, f.list, answer{})
			c.check(t, 0, f.list, f.list, answer{})
		}
		for _, a := range sound {
			c.check(t, 0, a, a, answer{})
			c.check(t, 0, a, sound[0], answer{})
		}
	}
}

// A fault of any of the three points makes it false, whatever the other ones are.
func TestPromise1TriangleFaults(t *testing.T) {
	faults, sound := faultyPoints(), somePoints()
	for i, wrong := range faults {
		for _, a := range []impl.Point{sound[i%len(sound)], sound[(i*5+7)%len(sound)], faults[(i*7+1)%len(faults)], wrong} {
			for _, b := range []impl.Point{a, sound[(i*3+1)%len(sound)], wrong} {
				for _, triple := range [][3]impl.Point{{wrong, a, b}, {a, wrong, b}, {a, b, wrong}} {
					if impl.IsTriangle(triple[0], triple[1], triple[2]) {
						t.Errorf("IsTriangle of %v", triple)
					}
				}
			}
		}
	}
}

// wildEnds are numbers of which a range or a point without a fault has few.
func wildEnds() []int64 {
	return []int64{math.MinInt64, math.MinInt64 + 1, -1 << 32, -1, 0, 1, 1 << 32, halfLon, poleLat, mostFar, mostTold - 1, mostTold, mostTold + 1, math.MaxInt64 - 1, math.MaxInt64}
}

func auditQuestions() []func() answer {
	var questions []func() answer
	ends := wildEnds()
	for i, low := range ends {
		for j, high := range ends {
			c := pointAt(ends[(i+j)%len(ends)], ends[i])
			questions = append(questions,
				func() answer { return ofWidth(low, high) },
				func() answer { return ofCheck(impl.IsTriangle(pointAt(low, high), pointAt(high, low), c)) },
				func() answer {
					return ofCheck(impl.IsSure([]impl.Point{pointAt(low, 0)}, []impl.Point{pointAt(0, high)}, low))
				},
			)
		}
	}
	list := somePoints()
	for i, a := range list {
		questions = append(questions, func() answer { return ofCheck(impl.IsTriangle(a, list[len(list)-1-i], list[i*5%len(list)])) })
	}
	return questions
}

func TestPromise1AuditsKeepNothing(t *testing.T) {
	checkKeepsNothing(t, auditQuestions())
}

// No panic leaves a function, whatever its arguments are.
func TestPromise1AuditsNoPanic(t *testing.T) {
	for _, question := range auditQuestions() {
		if left := panicOf(func() { question() }); left != nil {
			t.Errorf("panic %v", left)
		}
	}
}

// With a code no width is told.
func TestPromise1WidthCodes(t *testing.T) {
	for _, low := range wildEnds() {
		for _, high := range wildEnds() {
			if got := ofWidth(low, high); got.code != impl.OK && got.value != 0 {
				t.Errorf("WidthOf of %d to %d: got %v", low, high, got)
			}
		}
	}
	for _, f := range faultyLists(impl.ErrMany, impl.ErrRange) {
		if got := impl.WorstWidth(f.list); got != (impl.CheckResult{Code: f.code}) {
			t.Errorf("WorstWidth of %v: got %v, want %d", f.list, got, f.code)
		}
	}
}

func ofWidth(low int64, high int64) answer {
	r := impl.WidthOf(impl.Range{Low: low, High: high})
	return answer{code: r.Code, value: r.Value}
}
