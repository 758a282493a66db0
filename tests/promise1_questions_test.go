package tests

import (
	"fmt"
	"math"
	"slices"
	"testing"

	"loop.example/g00742/impl"
)

// withinCall is WithinOf, as one of two lists of points.
func withinCall(far int64) listCall {
	return listCall{fmt.Sprintf("WithinOf at %d", far), false, true, func(p int64, a, b []impl.Point) answer {
		r := impl.WithinOf(a, b, far)
		return answer{code: r.Code, value: r.Answer, high: r.Bits}
	}}
}

// questionCalls are the functions of chapter 7 that ask of two lists.
func questionCalls() []listCall {
	best := listCall{"BestDistance", false, true, func(p int64, a, b []impl.Point) answer { return ofRange(impl.BestDistance(a, b)) }}
	return []listCall{best, withinCall(0), withinCall(5000 * 1000000000)}
}

// allListCalls are these and those of the chapters 6 and 10.
func allListCalls() []listCall {
	return slices.Concat(listCalls(), questionCalls(), auditCalls())
}

// The faults of both lists are asked ahead of far.
func TestPromise1FarFaults(t *testing.T) {
	d := dice(131)
	sound := [][]impl.Point{d.places(1), d.places(7), d.places(mostPoints)}
	for _, far := range badFars() {
		c := withinCall(far)
		for i, f := range faultyLists(impl.ErrMany, impl.ErrRange) {
			other := sound[i%len(sound)]
			c.check(t, 0, f.list, other, answer{code: f.code})
			c.check(t, 0, other, f.list, answer{code: f.code})
		}
		for _, a := range sound {
			for _, b := range sound {
				c.check(t, 0, a, b, answer{code: impl.ErrRange})
			}
		}
	}
}

func TestPromise1QuestionsKeepNothing(t *testing.T) {
	var questions []func() answer
	ends := []int64{math.MinInt64, -1, 0, 1, 5, 7, mostFar, mostFar + 1, math.MaxInt64}
	for _, low := range ends {
		questions = append(questions, func() answer {
			r := impl.AskText(low)
			return answer{code: r.Code, text: r.Text}
		})
		for _, high := range ends {
			for _, far := range ends {
				questions = append(questions, func() answer {
					r := impl.ThreeOf(impl.Range{Low: low, High: high}, far)
					return answer{code: r.Code, value: r.Value}
				})
			}
		}
	}
	for _, c := range knownAsks() {
		for _, each := range c.from {
			questions = append(questions, func() answer { return withinCall(each.far).run(0, []impl.Point{c.a}, []impl.Point{c.b}) })
		}
	}
	checkKeepsNothing(t, questions)
}
