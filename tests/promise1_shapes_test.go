package tests

import (
	"math"
	"slices"
	"strings"
	"testing"

	"loop.example/g00742/impl"
)

// shapeCall is a function of chapter 8, as one of two shapes.
type shapeCall struct {
	name string
	run  func(a impl.Shape, b impl.Shape) answer
}

func ofText(r impl.TextResult) answer {
	return answer{code: r.Code, text: r.Text}
}

func shapeCalls() []shapeCall {
	return []shapeCall{
		{"ShapeFault", func(a, b impl.Shape) answer { return answer{code: impl.ShapeFault(a)} }},
		{"PrintShape", func(a, b impl.Shape) answer { return ofText(impl.PrintShape(a)) }},
		{"SameShapes", func(a, b impl.Shape) answer {
			if impl.SameShapes(a, b) {
				return answer{value: 1}
			}
			return answer{}
		}},
	}
}

func (c shapeCall) check(t *testing.T, a impl.Shape, b impl.Shape, want answer) {
	t.Helper()
	if got := c.run(a, b); !sameAnswers(got, want) {
		t.Errorf("%s of %v and %v: got %v, want %v", c.name, a, b, got, want)
	}
}

// pureShapes are shapes of each kind, and such as have each fault.
func pureShapes() []impl.Shape {
	list := append(soundShapes(), differentShapes()...)
	for i, f := range faultyLists(impl.ErrMany, impl.ErrRange) {
		list = append(list, impl.Shape{Kind: int64(i % 6), Points: f.list})
	}
	return list
}

func roomyShape(s impl.Shape) impl.Shape {
	return impl.Shape{Kind: s.Kind, Points: roomyPoints(s.Points)}
}

func clippedShape(s impl.Shape) impl.Shape {
	return impl.Shape{Kind: s.Kind, Points: slices.Clip(slices.Clone(s.Points))}
}

// No argument is changed, nor what is behind it, and no answer hangs on that.
func TestPromise1ShapesPure(t *testing.T) {
	list := pureShapes()
	for _, c := range shapeCalls() {
		for i, a := range list {
			for _, b := range []impl.Shape{a, list[(i*7+3)%len(list)]} {
				x, y := roomyShape(a), roomyShape(b)
				want := c.run(clippedShape(a), clippedShape(b))
				for range 2 {
					c.check(t, x, y, want)
					c.check(t, x, clippedShape(b), want)
				}
				if !isAsItWas(x.Points, a.Points) || !isAsItWas(y.Points, b.Points) {
					t.Errorf("%s of %v and %v: an argument is changed", c.name, a, b)
				}
				first := c.run(x, y)
				copy(x.Points[:cap(x.Points)], alike(cap(x.Points), fillerPoint))
				if !sameAnswers(first, want) {
					t.Errorf("%s of %v and %v: the answer is kept in an argument", c.name, a, b)
				}
			}
		}
	}
}

// One list may be in both arguments, or a part of the other one.
func TestPromise1ShapesOfOneList(t *testing.T) {
	d := dice(161)
	whole := d.ring(mostPoints)
	before := slices.Clone(whole)
	parts := [][]impl.Point{whole, whole[:5], whole[:1], whole[3:9], whole[11:], whole[:0]}
	for _, c := range shapeCalls() {
		for kind := int64(0); kind <= kindRing+1; kind++ {
			for _, a := range parts {
				for _, b := range parts {
					x, y := impl.Shape{Kind: kind, Points: a}, impl.Shape{Kind: kind, Points: b}
					c.check(t, x, y, c.run(clippedShape(x), clippedShape(y)))
				}
			}
		}
		if !slices.Equal(whole, before) {
			t.Fatalf("%s changes its argument", c.name)
		}
	}
}

func TestPromise1ShapesNilIsEmpty(t *testing.T) {
	for _, c := range shapeCalls() {
		for kind := int64(0); kind <= kindRing+1; kind++ {
			none, empty := impl.Shape{Kind: kind}, impl.Shape{Kind: kind, Points: []impl.Point{}}
			for _, other := range []impl.Shape{none, empty, {Kind: kind, Points: []impl.Point{pointAt(5, 5)}}, {}} {
				c.check(t, none, other, c.run(empty, other))
				c.check(t, other, none, c.run(other, empty))
			}
		}
	}
	if !impl.SameShapes(impl.Shape{}, impl.Shape{Points: []impl.Point{}}) {
		t.Error("SameShapes of none and empty points")
	}
}

// textCalls are the functions of chapter 8 that read a text.
func textCalls() map[string]func(text string) answer {
	return map[string]func(text string) answer{
		"ReadCoord": func(text string) answer {
			r := impl.ReadCoord(text)
			return answer{code: r.Code, value: r.Value}
		},
		"ParseShape": func(text string) answer {
			r := impl.ParseShape(text)
			points := make([]int64, 0, 2*len(r.Shape.Points))
			for _, each := range r.Shape.Points {
				points = append(points, each.Lon, each.Lat)
			}
			return answer{code: r.Code, value: r.Shape.Kind, lists: [][]int64{points}}
		},
	}
}

// pureTexts are texts that are read, and such as are not, of both functions that read.
func pureTexts() []string {
	list := append(readableTexts(), "", " ", "x", "-", "POINT", "POINT(1 2", "POINT(1 2))", "0", "-1.5", "007", "1.", "1000000", "\xff", "٣")
	for _, s := range soundShapes() {
		list = append(list, compact.spell(s))
	}
	long := strings.Repeat(" ", mostText)
	return append(list, long, long+" ", long+"POINT(1 2)", "POINT(1 2)"+long)
}

// The points of an answer are new memory each time.
func TestPromise1ParsedShapesPure(t *testing.T) {
	for _, text := range pureTexts() {
		first, second := impl.ParseShape(text), impl.ParseShape(text)
		want := clippedShape(first.Shape)
		all := second.Shape.Points[:cap(second.Shape.Points)]
		copy(all, alike(len(all), fillerPoint))
		if !slices.Equal(first.Shape.Points, want.Points) {
			t.Errorf("ParseShape of %q: two answers share memory", text)
		}
		checkParse(t, text, impl.ShapeResult{Code: first.Code, Shape: want})
	}
}

// A text that is a part of a longer one is read by itself, and with a code all else is zero.
func TestPromise1TextsPure(t *testing.T) {
	for name, run := range textCalls() {
		for _, text := range pureTexts() {
			want := run(strings.Clone(text))
			room := "7 (" + text + "5)5"
			if got := run(room[3 : 3+len(text)]); !sameAnswers(got, want) {
				t.Errorf("%s of %q within a longer text: got %v, want %v", name, text, got, want)
			}
			if want.code != impl.OK && (want.value != 0 || slices.ContainsFunc(want.lists, func(list []int64) bool { return len(list) > 0 })) {
				t.Errorf("%s of %q: got %v", name, text, want)
			}
		}
	}
}

// panicOf is what leaves run as a panic.
func panicOf(run func()) (left any) {
	defer func() { left = recover() }()
	run()
	return nil
}

// No panic leaves a function, whatever its argument is.
func TestPromise1ShapesNoPanic(t *testing.T) {
	d := dice(162)
	texts := append(pureTexts(), wrongTexts()...)
	pieces := append(strangeBytes, "POINT", "MULTI", "LINESTRING", "POLYGON", "(", ")", "((", "))", ",", "1 2")
	for range 20000 {
		text := ""
		for range d.below(12) {
			text += pieces[d.below(len(pieces))]
		}
		texts = append(texts, text)
	}
	for name, run := range textCalls() {
		for _, text := range texts {
			if left := panicOf(func() { run(text) }); left != nil {
				t.Errorf("%s of %q: panic %v", name, text, left)
			}
		}
	}
	for _, c := range shapeCalls() {
		for _, s := range pureShapes() {
			if left := panicOf(func() { c.run(s, s) }); left != nil {
				t.Errorf("%s of %v: panic %v", c.name, s, left)
			}
		}
	}
	for _, nano := range append(edgeCoords(), math.MinInt64, math.MinInt64+1, math.MaxInt64, mostCoord+1, -mostCoord-1) {
		if left := panicOf(func() { impl.CoordText(nano) }); left != nil {
			t.Errorf("CoordText of %d: panic %v", nano, left)
		}
	}
}

// A text or a list of any length is answered at once.
func TestPromise1LongShapes(t *testing.T) {
	const long = 10000000
	for _, piece := range []string{"0", "9", "-", ".", " ", "x", "(", "\xff"} {
		text := strings.Repeat(piece, long)
		for _, each := range []string{text, "1." + text, "-" + text, "1" + text} {
			if got := impl.ReadCoord(each); got != (impl.IntResult{Code: impl.ErrText}) {
				t.Errorf("ReadCoord of %d times %q: got %v", long, piece, got)
			}
			if got := impl.ParseShape(each); got.Code != impl.ErrMany {
				t.Errorf("ParseShape of %d times %q: got %v", long, piece, got.Code)
			}
		}
	}
	points := make([]impl.Point, long)
	for kind := int64(kindPoint); kind <= kindRing; kind++ {
		s := impl.Shape{Kind: kind, Points: points}
		if code, printed := impl.ShapeFault(s), impl.PrintShape(s); code != impl.ErrMany || printed != (impl.TextResult{Code: impl.ErrMany}) {
			t.Errorf("a shape of %d points: got %d and %v", long, code, printed)
		}
		if !impl.SameShapes(s, s) || impl.SameShapes(s, impl.Shape{Kind: kind, Points: points[1:]}) {
			t.Errorf("SameShapes of %d points", long)
		}
	}
}

func TestPromise1ShapesKeepNothing(t *testing.T) {
	var questions []func() answer
	for _, text := range pureTexts() {
		questions = append(questions, func() answer { return textCalls()["ReadCoord"](text) }, func() answer { return textCalls()["ParseShape"](text) })
	}
	list := pureShapes()
	for _, c := range shapeCalls() {
		for i, s := range list {
			questions = append(questions, func() answer { return c.run(s, list[len(list)-1-i]) })
		}
	}
	for _, nano := range append(edgeCoords(), math.MinInt64, math.MaxInt64) {
		questions = append(questions, func() answer { return ofText(impl.CoordText(nano)) })
	}
	checkKeepsNothing(t, questions)
}
