package tests

import (
	"fmt"
	"slices"
	"strings"
	"testing"

	"loop.example/g00742/impl"
)

// listCall is a function of the chapters 6, 7 or 10, as one of a precision and two lists of points.
type listCall struct {
	name    string
	precise bool
	both    bool
	run     func(p int64, a []impl.Point, b []impl.Point) answer
}

func listCalls() []listCall {
	return []listCall{
		{"PointsFault", false, false, func(p int64, a, b []impl.Point) answer { return answer{code: impl.PointsFault(a)} }},
		{"LengthOf", true, false, func(p int64, a, b []impl.Point) answer { return ofRange(impl.LengthOf(p, a)) }},
		{"AreaOf", true, false, func(p int64, a, b []impl.Point) answer { return ofRange(impl.AreaOf(p, a)) }},
		{"SetDistance", true, true, func(p int64, a, b []impl.Point) answer { return ofRange(impl.SetDistance(p, a, b)) }},
	}
}

// precisionsOf are those with which the call has to be tried.
func (c listCall) precisionsOf() []int64 {
	if c.precise {
		return precisions
	}
	return []int64{48}
}

// check asks the call, and what has to come of it.
func (c listCall) check(t *testing.T, p int64, a []impl.Point, b []impl.Point, want answer) {
	t.Helper()
	if got := c.run(p, a, b); !sameAnswers(got, want) {
		t.Errorf("%s with %d of %v and %v: got %v, want %v", c.name, p, a, b, got, want)
	}
}

// fault is what the call has to answer with this code; those that tell whether something is so have none to tell.
func (c listCall) fault(code int64) answer {
	if c.isCheck() {
		return answer{}
	}
	return answer{code: code}
}

// isCheck tells that the call answers whether something is so. What the chapters promise is so of all lists without a fault.
func (c listCall) isCheck() bool {
	return strings.HasPrefix(c.name, "Is")
}

// fillerPoint is what the tests write over memory that nobody but its owner may look at.
var fillerPoint = pointAt(filler, filler)

// roomyPoints is a copy with room behind it that is not the list's.
func roomyPoints(list []impl.Point) []impl.Point {
	room := append(slices.Clone(list), alike(mostPoints+1, fillerPoint)...)
	return room[:len(list)]
}

// isAsItWas tells that neither a roomy copy nor the room behind it is changed.
func isAsItWas(roomy []impl.Point, list []impl.Point) bool {
	return slices.Equal(roomy[:len(list)+mostPoints+1], append(slices.Clone(list), alike(mostPoints+1, fillerPoint)...))
}

// sumLists are ways, sets and rings, and lists with each fault.
func sumLists() [][]impl.Point {
	all := append(lists(), rings()...)
	d := dice(111)
	for _, fault := range faultyLists(impl.ErrMany, impl.ErrRange) {
		all = append(all, fault.list)
	}
	unclosed := append(d.ring(6), d.point())
	return append(all, unclosed, []impl.Point{pointAt(0, poleLat), pointAt(5, 5), pointAt(6, 6), pointAt(0, poleLat)})
}

// faultyList is a list with a fault, and the code that chapter 6 has for it.
type faultyList struct {
	list []impl.Point
	code int64
}

// faultyLists have each fault alone, and both, of which that of the number of points is asked first.
func faultyLists(many, outOfRange int64) []faultyList {
	d := dice(112)
	list := []faultyList{{nil, many}, {[]impl.Point{}, many}, {d.places(mostPoints + 1), many}, {d.ring(mostPoints + 1), many}, {d.places(1000), many}}
	for i, wrong := range faultyPoints() {
		n := 1 + i%mostPoints
		part := d.ring(mostPoints)[:n]
		part[i*5%n] = wrong
		list = append(list, faultyList{part, outOfRange}, faultyList{alike(n, wrong), outOfRange}, faultyList{append(d.places(mostPoints), wrong), many})
	}
	return list
}

// No argument is changed, nor what is behind it, and an answer hangs neither on that nor on what is written there later.
func TestPromise1MeasuresPure(t *testing.T) {
	all := sumLists()
	for _, c := range allListCalls() {
		for _, p := range append(c.precisionsOf(), 50) {
			for i, a := range all {
				b := all[(i*7+3)%len(all)]
				x, y := roomyPoints(a), roomyPoints(b)
				want := c.run(p, slices.Clip(slices.Clone(a)), slices.Clip(slices.Clone(b)))
				for range 2 {
					c.check(t, p, x, y, want)
				}
				if !isAsItWas(x, a) || !isAsItWas(y, b) {
					t.Errorf("%s with %d of %v and %v: an argument is changed", c.name, p, a, b)
				}
				copy(x[:cap(x)], alike(cap(x), fillerPoint))
				c.check(t, p, slices.Clone(a), slices.Clone(b), want)
			}
		}
	}
}

// One list may be both arguments, or a part of the other one.
func TestPromise1MeasuresOfOneList(t *testing.T) {
	d := dice(113)
	whole := d.ring(mostPoints)
	before := slices.Clone(whole)
	parts := [][]impl.Point{whole, whole[:5], whole[3:9], whole[11:], whole[:0]}
	for _, c := range allListCalls() {
		for _, p := range c.precisionsOf() {
			for _, a := range parts {
				for _, b := range parts {
					c.check(t, p, a, b, c.run(p, slices.Clone(a), slices.Clone(b)))
					if !slices.Equal(whole, before) {
						t.Fatalf("%s with %d changes its argument", c.name, p)
					}
				}
			}
		}
	}
}

func TestPromise1MeasuresNilIsEmpty(t *testing.T) {
	for _, c := range allListCalls() {
		for _, p := range append(c.precisionsOf(), 50) {
			for _, other := range [][]impl.Point{nil, {}, {pointAt(5, 5)}, {pointAt(0, poleLat+1)}} {
				c.check(t, p, nil, other, c.run(p, []impl.Point{}, other))
				c.check(t, p, other, nil, c.run(p, other, []impl.Point{}))
			}
		}
	}
}

// The fault of a is asked ahead of that of b, and both ahead of all else; what is answered with a code is zero but for the code.
func TestPromise1ListFaults(t *testing.T) {
	faults := faultyLists(impl.ErrMany, impl.ErrRange)
	d := dice(114)
	others := [][]impl.Point{d.places(1), d.places(mostPoints), nil, d.places(mostPoints + 1), alike(3, faultyPoints()[0])}
	for _, f := range faults {
		for _, c := range allListCalls() {
			for _, p := range c.precisionsOf() {
				for i, other := range others {
					c.check(t, p, f.list, other, c.fault(f.code))
					if c.both && i < 2 {
						c.check(t, p, other, f.list, c.fault(f.code))
					}
				}
				if c.precise {
					c.check(t, 50, f.list, f.list, answer{code: impl.ErrRange})
				}
			}
		}
	}
}

func TestPromise1ListBounds(t *testing.T) {
	d := dice(115)
	for _, c := range allListCalls() {
		for _, p := range c.precisionsOf() {
			for n := range mostPoints + 3 {
				want := int64(impl.OK)
				if n == 0 || n > mostPoints {
					want = impl.ErrMany
				} else if c.name == "AreaOf" && n < 4 {
					want = impl.ErrForm
				}
				list := d.places(n)
				if n >= 4 {
					list = d.ring(n)
				}
				got := c.run(p, list, d.places(max(1, min(n, mostPoints))))
				if c.isCheck() {
					if isSo := got.value == 1; isSo != (want == impl.OK) {
						t.Errorf("%s of %d points: got %v", c.name, n, got)
					}
				} else if got.code != want {
					t.Errorf("%s with %d of %d points: got %v, want %d", c.name, p, n, got, want)
				}
			}
		}
	}
}

// A ring's form is asked behind all faults, and ahead of its sides.
func TestPromise1AreaFaults(t *testing.T) {
	a, b, c, pole, far := pointAt(0, 0), pointAt(degree, 0), pointAt(degree, degree), pointAt(0, poleLat), pointAt(0, poleLat+1)
	cases := []faultyList{
		{[]impl.Point{a, b, far}, impl.ErrRange}, {[]impl.Point{a, b, c, far}, impl.ErrRange}, {[]impl.Point{far, a, b, c}, impl.ErrRange}, {[]impl.Point{far}, impl.ErrRange}, {[]impl.Point{pole, far, a, pole}, impl.ErrRange},
		{[]impl.Point{far, a, b, far}, impl.ErrRange}, {alike(mostPoints+1, far), impl.ErrMany}, {append(alike(mostPoints, a), b), impl.ErrMany}, {[]impl.Point{a, b, c}, impl.ErrForm}, {[]impl.Point{a, pole, b, a}, impl.ErrForm},
	}
	for _, each := range cases {
		for _, p := range precisions {
			if got := impl.AreaOf(p, each.list); got != (impl.RangeResult{Code: each.code}) {
				t.Errorf("AreaOf with %d of %v: got %v, want %d", p, each.list, got, each.code)
			}
		}
		if got := impl.AreaOf(50, each.list); got != (impl.RangeResult{Code: impl.ErrRange}) {
			t.Errorf("AreaOf with 50 of %v: got %v", each.list, got)
		}
	}
}

func TestPromise1MeasuresNoPrecision(t *testing.T) {
	d := dice(116)
	all := [][]impl.Point{nil, d.places(1), d.places(3), d.ring(4), d.ring(mostPoints), d.places(mostPoints + 1), alike(5, faultyPoints()[0])}
	for _, c := range allListCalls() {
		for _, p := range noPrecisions() {
			for i, a := range all {
				if c.precise {
					c.check(t, p, a, all[len(all)-1-i], answer{code: impl.ErrRange})
				}
			}
		}
	}
}

// An answer of TurnOf is new memory, and its two ends share none with each other, however it is told.
func TestPromise1TurnsPure(t *testing.T) {
	var cases []twiceCase
	for i, pair := range sidePairs() {
		if i%5 == 0 {
			cases = append(cases, twiceCase{precisions[i%3], pair[0], pair[1], 0, 0})
		}
	}
	for _, c := range append(cases, twiceCases()...) {
		what := fmt.Sprintf("TurnOf with %d of %v and %v", c.p, c.from, c.to)
		checkPure(t, what, func([][]int64) answer { return ofSpan(impl.TurnOf(c.p, c.from, c.to)) })
	}
}

func TestPromise1MeasuresKeepNothing(t *testing.T) {
	all := sumLists()
	var questions []func() answer
	for _, c := range allListCalls() {
		for _, p := range c.precisionsOf() {
			for i, a := range all {
				if i%3 == int(p/24)%3 || !c.precise {
					questions = append(questions, func() answer { return c.run(p, a, all[len(all)-1-i]) })
				}
			}
		}
	}
	checkKeepsNothing(t, questions)
}

// A list of any length is answered at once.
func TestPromise1LongLists(t *testing.T) {
	long := make([]impl.Point, 10000000)
	for _, c := range allListCalls() {
		c.check(t, 96, long, long, c.fault(impl.ErrMany))
	}
}
