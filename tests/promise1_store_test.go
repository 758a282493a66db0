package tests

import (
	"fmt"
	"slices"
	"strings"
	"testing"

	"loop.example/g00742/impl"
)

// fillerNamed is what the tests write over memory that nobody but its owner may look at.
var fillerNamed = impl.Named{Name: "filler", Shape: impl.Shape{Kind: filler, Points: []impl.Point{fillerPoint}}}

// roomyStore is a copy of all that a store has, with room behind each list that is not the list's.
func roomyStore(s impl.Store) impl.Store {
	var list []impl.Named
	for _, each := range s.List {
		list = append(list, named(each.Name, roomyShape(each.Shape)))
	}
	room := append(list, slices.Repeat([]impl.Named{fillerNamed}, mostNames+1)...)
	return impl.Store{List: room[:len(list)]}
}

// allOfStore tells of a roomy store, and of its shapes, also what is in the room behind.
func allOfStore(s impl.Store) string {
	room := s.List[:cap(s.List)]
	text := storeText(impl.Store{List: room})
	for _, each := range room {
		text += fmt.Sprint(each.Shape.Points[:cap(each.Shape.Points)])
	}
	return text
}

func roomyQuestion(q storeQuestion) storeQuestion {
	q.store, q.other, q.shape = roomyStore(q.store), roomyStore(q.other), roomyShape(q.shape)
	return q
}

// all tells of a roomy question all that the program could change.
func (q storeQuestion) all() string {
	points := q.shape.Points[:cap(q.shape.Points)]
	return fmt.Sprint(q.a, q.b, q.far, q.shape.Kind, len(q.shape.Points), points, allOfStore(q.store), allOfStore(q.other))
}

func scribbleNames(list []string) {
	list = list[:cap(list)]
	for i := range list {
		list[i] = "filler"
	}
}

func scribblePoints(list []impl.Point) {
	copy(list[:cap(list)], alike(cap(list), fillerPoint))
}

func scribbleNamed(list []impl.Named) {
	copy(list[:cap(list)], slices.Repeat([]impl.Named{fillerNamed}, cap(list)))
}

// scribble writes over all the memory of a question.
func (q storeQuestion) scribble() {
	scribblePoints(q.shape.Points)
	for _, s := range []impl.Store{q.store, q.other} {
		for _, each := range s.List {
			scribblePoints(each.Shape.Points)
		}
		scribbleNamed(s.List)
	}
}

// parts tells the lists of an answer, one by one: those of points, those of names, and that of the store.
func (a storeAnswer) parts() []string {
	parts := []string{fmt.Sprint(a.shape.Points)}
	for _, each := range a.store.List {
		parts = append(parts, fmt.Sprint(each.Shape.Points))
	}
	for _, list := range a.names {
		parts = append(parts, fmt.Sprintf("%q", list))
	}
	var names []string
	for _, each := range a.store.List {
		names = append(names, each.Name)
	}
	return append(parts, fmt.Sprintf("%q", names))
}

// scribblePart writes over all the memory of the list of that number.
func (a storeAnswer) scribblePart(part int) {
	points := [][]impl.Point{a.shape.Points}
	for _, each := range a.store.List {
		points = append(points, each.Shape.Points)
	}
	switch names := part - len(points); {
	case names < 0:
		scribblePoints(points[part])
	case names < len(a.names):
		scribbleNames(a.names[names])
	default:
		scribbleNamed(a.store.List)
	}
}

// checkPureStore checks that one call changes no argument, shares no memory, and answers the same again.
func (c storeCall) checkPureStore(t *testing.T, given storeQuestion) {
	t.Helper()
	q := roomyQuestion(given)
	before := q.all()
	first := c.run(q)
	want := first.text()
	if q.all() != before {
		t.Errorf("%s of %v: an argument is changed", c.name, given)
	}
	second := c.run(q)
	if second.text() != want {
		t.Errorf("%s of %v: got %s, and then %s", c.name, given, want, second.text())
	}
	for part := range second.parts() {
		told := second.parts()
		second.scribblePart(part)
		for other, text := range second.parts() {
			// The last one has all the points, and is written over last.
			if other != part && part < len(told)-1 && text != told[other] {
				t.Errorf("%s of %v: two lists share memory", c.name, given)
			}
		}
	}
	if q.all() != before {
		t.Errorf("%s of %v: the answer shares memory with an argument", c.name, given)
	}
	if first.text() != want {
		t.Errorf("%s of %v: two answers share memory", c.name, given)
	}
	q.scribble()
	if first.text() != want {
		t.Errorf("%s of %v: the answer is kept in an argument", c.name, given)
	}
	if got := c.run(roomyQuestion(given)); got.text() != want {
		t.Errorf("%s of %v: got %v, want %s", c.name, given, got, want)
	}
}

// pureStores are stores without a fault and some with each fault.
func pureStores() []impl.Store {
	list := soundStores()
	for i, f := range faultyStores() {
		if i%37 == 0 {
			list = append(list, f.store)
		}
	}
	return list
}

// pureQuestions ask of each store for names that it has and that it has not, and put shapes with and without a fault.
func pureQuestions() []storeQuestion {
	var list []storeQuestion
	stores, sound, shapes := pureStores(), soundShapes(), pureShapes()
	for i, s := range stores {
		names := []string{"a", "0", "m", "", "A"}
		for _, each := range s.List {
			names = append(names, each.Name)
		}
		for j, name := range names {
			n := i*len(names) + j
			other, shape := stores[n*7%len(stores)], shapes[n*11%len(shapes)]
			if n%3 == 0 {
				other = s
			}
			if n%2 == 0 {
				shape = sound[n*11%len(sound)]
			}
			list = append(list, storeQuestion{store: s, other: other, a: name, b: names[n*5%len(names)], shape: shape, far: []int64{0, 111, 5000000000000, mostFar, -1}[n%5]})
		}
	}
	return list
}

// some are all questions of a call, or, of one that measures and so takes long, a part of them.
func (c storeCall) some(questions []storeQuestion) []storeQuestion {
	part := map[string]int{"ScanWithin": 11, "DistanceIn": 7, "LengthIn": 5, "AreaIn": 5}[c.name]
	if part == 0 {
		return questions
	}
	var list []storeQuestion
	for i, q := range questions {
		if i%part == 0 {
			list = append(list, q)
		}
	}
	return list
}

// No argument is changed, nor what its shapes hold, nor what is behind it; and neither an answer and an argument nor two lists of an answer share memory, also where shapes stay as they were.
func TestPromise1StoresPure(t *testing.T) {
	questions := pureQuestions()
	for _, c := range storeCalls() {
		for _, q := range c.some(questions) {
			c.checkPureStore(t, q)
		}
	}
}

// What is put shares nothing with what it was put into, nor with the shape that was put.
func TestPromise1PutsPure(t *testing.T) {
	full := storeWith(fullNames, append(storedSets()[:5], storedWays()[:5]...)...)
	for _, c := range storeCalls() {
		if c.name != "PutShape" && c.name != "DropShape" {
			continue
		}
		for n := range mostNames + 1 {
			for _, name := range append([]string{"m", "000", "zz"}, fullNames...) {
				for _, shape := range append(storedSets()[6:], storedWays()[4]) {
					c.checkPureStore(t, storeQuestion{store: impl.Store{List: full.List[:n]}, a: name, shape: shape})
				}
			}
		}
	}
}

// oneListStore is a store whose shapes are all parts of one list.
func oneListStore(whole []impl.Point) impl.Store {
	return storeOf(named("all", shapeOf(kindLine, whole...)), named("same", impl.Shape{Kind: kindMulti, Points: whole}), named("self", impl.Shape{Kind: kindMulti, Points: whole}), named("tail", impl.Shape{Kind: kindLine, Points: whole[4:]}), named("top", impl.Shape{Kind: kindPoint, Points: whole[:1]}))
}

// One list may be that of many shapes of a store, and of the shape that is put; those of an answer share none.
func TestPromise1StoresOfOneList(t *testing.T) {
	d := dice(191)
	whole := d.ring(9)
	before := slices.Clone(whole)
	s := oneListStore(whole)
	for _, c := range storeCalls() {
		for _, name := range []string{"all", "same", "self", "tail", "top", "new", "zz", ""} {
			for _, shape := range []impl.Shape{{Kind: kindMulti, Points: whole}, {Kind: kindLine, Points: whole[2:5]}, {Kind: kindPoint, Points: whole[8:]}, {Kind: kindRing, Points: whole}} {
				q := storeQuestion{store: s, other: s, a: name, b: "same", shape: shape, far: 111}
				apart := storeQuestion{store: deepStore(s), other: deepStore(s), a: name, b: "same", shape: clippedShape(shape), far: 111}
				got := c.run(q)
				want := c.run(apart).text()
				if got.text() != want {
					t.Errorf("%s of %v: got %v, want %s", c.name, q, got, want)
				}
				parts := got.parts()
				for part := range len(parts) - 1 {
					got.scribblePart(part)
					for other, text := range got.parts() {
						if other > part && text != parts[other] {
							t.Errorf("%s of %v: two lists share memory", c.name, q)
						}
					}
				}
				if !slices.Equal(whole, before) {
					t.Fatalf("%s of %v: an argument is changed, or shares memory with the answer", c.name, q)
				}
			}
		}
	}
}

func TestPromise1StoresNilIsEmpty(t *testing.T) {
	none, empty := impl.Store{}, impl.Store{List: []impl.Named{}}
	bare, hollow := storeOf(named("a", impl.Shape{Kind: kindMulti})), storeOf(named("a", impl.Shape{Kind: kindMulti, Points: []impl.Point{}}))
	shapes := append(storedSets()[:3], bare.List[0].Shape, hollow.List[0].Shape)
	for _, c := range storeCalls() {
		for _, pair := range [][2]impl.Store{{none, empty}, {bare, hollow}} {
			for _, other := range []impl.Store{none, empty, bare, hollow, storeWith(fullNames, storedSets()...)} {
				for _, name := range []string{"a", "", "b"} {
					for i, shape := range shapes {
						x := storeQuestion{store: pair[0], other: other, a: name, b: "a", shape: shape, far: int64(i) - 1}
						y := x
						y.store = pair[1]
						if got, want := c.run(x), c.run(y); got.text() != want.text() {
							t.Errorf("%s of %v: got %v, and with empty lists %v", c.name, x, got, want)
						}
						x.store, x.other, y.store, y.other = other, pair[0], other, pair[1]
						if got, want := c.run(x), c.run(y); got.text() != want.text() {
							t.Errorf("%s of %v: got %v, and with empty lists %v", c.name, x, got, want)
						}
					}
				}
			}
		}
	}
	if !impl.SameStores(none, empty) || !impl.SameStores(bare, hollow) {
		t.Error("SameStores of none and empty lists")
	}
	put, want := impl.PutShape(none, "a", shapes[0]), impl.PutShape(empty, "a", shapes[0])
	if put.Code != impl.OK || !impl.SameStores(put.Store, want.Store) {
		t.Errorf("PutShape into none: got %v, and into an empty store %v", put, want)
	}
}

// With a code, and beside a false, all else of an answer is zero.
func TestPromise1StoreCodes(t *testing.T) {
	coded := map[string]map[int64]bool{}
	questions := pureQuestions()
	for _, c := range storeCalls() {
		coded[c.name] = map[int64]bool{}
		for _, q := range c.some(questions) {
			got := c.run(q)
			coded[c.name][got.code] = true
			if got.code != impl.OK && got.text() != (storeAnswer{code: got.code}).text() {
				t.Errorf("%s of %v: got %v", c.name, q, got)
			}
		}
	}
	for name, want := range map[string]int{"IsName": 1, "SameStores": 1, "StoreFault": 5, "GetShape": 6, "PutShape": 6, "DropShape": 6, "DistanceIn": 6, "LengthIn": 6, "AreaIn": 6, "ScanWithin": 6, "NamesIn": 5} {
		if len(coded[name]) < want {
			t.Errorf("%s tells only the codes %v", name, coded[name])
		}
	}
}

// No panic leaves a function, whatever its arguments are.
func TestPromise1StoresNoPanic(t *testing.T) {
	strange := append(differentStores(), pureStores()...)
	names, shapes := append(wrongNames(), "a", "m", "0"), pureShapes()
	for _, c := range storeCalls() {
		for i, s := range strange {
			for j, name := range names {
				q := storeQuestion{store: s, other: strange[(i+j)%len(strange)], a: name, b: names[(i+j)%len(names)], shape: shapes[(i*3+j)%len(shapes)], far: badFars()[(i+j)%len(badFars())]}
				if left := panicOf(func() { c.run(q) }); left != nil {
					t.Errorf("%s of %v: panic %v", c.name, q, left)
				}
			}
		}
	}
}

// A store, a name or a shape of any length is answered at once.
func TestPromise1LongStores(t *testing.T) {
	const long = 10000000
	set := storedSets()[0]
	many := impl.Store{List: slices.Repeat([]impl.Named{named("a", set)}, long/10)}
	crowded := storeOf(named("a", impl.Shape{Kind: kindMulti, Points: make([]impl.Point, long)}))
	full, name := storeWith(fullNames, storedSets()...), strings.Repeat("a", long)
	called := storeOf(named(name, set))
	codes := map[string][4]int64{
		"StoreFault": {impl.ErrMany, impl.ErrMany, impl.ErrText, impl.OK}, "NamesIn": {impl.ErrMany, impl.ErrMany, impl.ErrText, impl.OK}, "PutShape": {impl.ErrMany, impl.ErrMany, impl.ErrText, impl.ErrText},
		"GetShape": {impl.ErrMany, impl.ErrMany, impl.ErrText, impl.ErrNone}, "DropShape": {impl.ErrMany, impl.ErrMany, impl.ErrText, impl.ErrNone}, "DistanceIn": {impl.ErrMany, impl.ErrMany, impl.ErrText, impl.ErrNone},
		"LengthIn": {impl.ErrMany, impl.ErrMany, impl.ErrText, impl.ErrNone}, "AreaIn": {impl.ErrMany, impl.ErrMany, impl.ErrText, impl.ErrNone}, "ScanWithin": {impl.ErrMany, impl.ErrMany, impl.ErrText, impl.ErrNone},
	}
	for _, c := range storeCalls() {
		for i, s := range []impl.Store{many, crowded, called, full} {
			got := c.run(storeQuestion{store: s, a: name, b: name, shape: set})
			if got.code != codes[c.name][i] || got.isSo {
				t.Errorf("%s of the long store %d: got %d", c.name, i, got.code)
			}
		}
	}
	if impl.IsName(name) || !impl.SameStores(many, many) || impl.SameStores(many, impl.Store{List: many.List[1:]}) || !impl.SameStores(crowded, crowded) || !impl.SameStores(called, called) || impl.SameStores(called, storeOf(named(name[1:], set))) {
		t.Error("long names and stores")
	}
	if got := impl.PutShape(full, "a", crowded.List[0].Shape); got.Code != impl.ErrMany {
		t.Errorf("PutShape of %d points: got %d", long, got.Code)
	}
}

func TestPromise1StoresKeepNothing(t *testing.T) {
	all := pureQuestions()
	var questions []func() answer
	for _, c := range storeCalls() {
		for _, q := range c.some(all) {
			questions = append(questions, func() answer { return answer{text: c.run(q).text()} })
		}
	}
	checkKeepsNothing(t, questions)
}
