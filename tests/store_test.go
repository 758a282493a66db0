package tests

import (
	"fmt"
	"regexp"
	"slices"
	"strings"
	"testing"

	"loop.example/g00742/impl"
)

// The numbers of chapter 9, told once more.
const (
	mostNames   = 10
	longestName = 8
)

// nameText is what a name is, told by a pattern, which is another way than the program's.
var nameText = regexp.MustCompile(`^[a-z0-9]{1,8}$`)

// setKinds, wayKinds and ringKinds are the kinds that are asked for.
var (
	setKinds  = []int64{kindPoint, kindMulti}
	wayKinds  = []int64{kindLine, kindRing}
	ringKinds = []int64{kindRing}
)

// storeQuestion is all that the functions of chapter 9, NamesIn of chapter 10, and those of chapter 11 are asked with; of the last ones, a is the line or the script.
type storeQuestion struct {
	store, other impl.Store
	a, b         string
	shape        impl.Shape
	far          int64
}

// storeAnswer is all that they answer. The names are those in Yes, No and Unknown.
type storeAnswer struct {
	code  int64
	isSo  bool
	far   impl.Range
	shape impl.Shape
	store impl.Store
	names [3][]string
	count int64
	said  string
}

// storeCall is one of these functions, and what it has to answer, told without it.
type storeCall struct {
	name string
	run  func(q storeQuestion) storeAnswer
	want func(q storeQuestion) storeAnswer
}

func ofShape(r impl.ShapeResult) storeAnswer {
	return storeAnswer{code: r.Code, shape: r.Shape}
}

func ofStore(r impl.StoreResult) storeAnswer {
	return storeAnswer{code: r.Code, store: r.Store}
}

func ofFar(r impl.RangeResult) storeAnswer {
	return storeAnswer{code: r.Code, far: r.Range}
}

func ofCount(r impl.IntResult) storeAnswer {
	return storeAnswer{code: r.Code, count: r.Value}
}

func ofScan(r impl.ScanResult) storeAnswer {
	return storeAnswer{code: r.Code, names: [3][]string{r.Yes, r.No, r.Unknown}}
}

// storeCalls are all of these functions.
func storeCalls() []storeCall {
	return append(rangeCalls(),
		storeCall{"IsName", func(q storeQuestion) storeAnswer { return storeAnswer{isSo: impl.IsName(q.a)} }, func(q storeQuestion) storeAnswer { return storeAnswer{isSo: nameText.MatchString(q.a)} }},
		storeCall{"StoreFault", func(q storeQuestion) storeAnswer { return storeAnswer{code: impl.StoreFault(q.store)} }, func(q storeQuestion) storeAnswer { return storeAnswer{code: faultOfStore(q.store)} }},
		storeCall{"GetShape", func(q storeQuestion) storeAnswer { return ofShape(impl.GetShape(q.store, q.a)) }, wantGet},
		storeCall{"PutShape", func(q storeQuestion) storeAnswer { return ofStore(impl.PutShape(q.store, q.a, q.shape)) }, wantPut},
		storeCall{"DropShape", func(q storeQuestion) storeAnswer { return ofStore(impl.DropShape(q.store, q.a)) }, wantDrop},
		storeCall{"SameStores", func(q storeQuestion) storeAnswer { return storeAnswer{isSo: impl.SameStores(q.store, q.other)} }, func(q storeQuestion) storeAnswer {
			return storeAnswer{isSo: storeText(q.store) == storeText(q.other)}
		}},
		storeCall{"NamesIn", func(q storeQuestion) storeAnswer { return ofCount(impl.NamesIn(q.store)) }, wantNames},
	)
}

// rangeCalls are those that measure what is in a store.
func rangeCalls() []storeCall {
	return []storeCall{
		{"DistanceIn", func(q storeQuestion) storeAnswer { return ofFar(impl.DistanceIn(q.store, q.a, q.b)) }, wantDistance},
		{"LengthIn", func(q storeQuestion) storeAnswer { return ofFar(impl.LengthIn(q.store, q.a)) }, wantLength},
		{"AreaIn", func(q storeQuestion) storeAnswer { return ofFar(impl.AreaIn(q.store, q.a)) }, wantArea},
		{"ScanWithin", func(q storeQuestion) storeAnswer { return ofScan(impl.ScanWithin(q.store, q.a, q.far)) }, wantScan},
	}
}

// check compares what is answered with what has to be.
func (c storeCall) check(t *testing.T, q storeQuestion) {
	t.Helper()
	if got, want := c.run(q), c.want(q); got.text() != want.text() {
		t.Errorf("%s of %v: got %v, want %v", c.name, q, got, want)
	}
}

// checkCode checks that there is this code, and nothing else.
func (c storeCall) checkCode(t *testing.T, q storeQuestion, code int64) {
	t.Helper()
	if got := c.run(q); got.text() != (storeAnswer{code: code}).text() {
		t.Errorf("%s of %v: got %v, want %d", c.name, q, got, code)
	}
}

// storeText tells all of a store, so that two are the same if and only if their texts are.
func storeText(s impl.Store) string {
	var text strings.Builder
	for _, each := range s.List {
		fmt.Fprintf(&text, "%q is %v; ", each.Name, each.Shape)
	}
	return text.String()
}

func (a storeAnswer) text() string {
	return fmt.Sprintf("%d %t %d %v %v %q %q %s", a.code, a.isSo, a.count, a.far, a.shape, a.names, a.said, storeText(a.store))
}

// isAheadOf tells that one name is ahead of another one, byte by byte.
func isAheadOf(a string, b string) bool {
	for i := range min(len(a), len(b)) {
		if a[i] != b[i] {
			return a[i] < b[i]
		}
	}
	return len(a) < len(b)
}

// faultOfStore is what StoreFault has to answer.
func faultOfStore(s impl.Store) int64 {
	if len(s.List) > mostNames {
		return impl.ErrMany
	}
	isRising := true
	for i, each := range s.List {
		if !nameText.MatchString(each.Name) {
			return impl.ErrText
		}
		if code := faultOfShape(each.Shape); code != impl.OK {
			return code
		}
		for _, ahead := range s.List[:i] {
			isRising = isRising && isAheadOf(ahead.Name, each.Name)
		}
	}
	if !isRising {
		return impl.ErrForm
	}
	return impl.OK
}

// spotOf is where a name is in a store without a fault, or would have to be put.
func spotOf(s impl.Store, name string) (spot int, isThere bool) {
	for _, each := range s.List {
		if isAheadOf(each.Name, name) {
			spot++
		}
	}
	return spot, spot < len(s.List) && s.List[spot].Name == name
}

func wantGet(q storeQuestion) storeAnswer {
	if code := faultOfStore(q.store); code != impl.OK {
		return storeAnswer{code: code}
	}
	spot, isThere := spotOf(q.store, q.a)
	if !isThere {
		return storeAnswer{code: impl.ErrNone}
	}
	return storeAnswer{shape: q.store.List[spot].Shape}
}

func wantPut(q storeQuestion) storeAnswer {
	if code := faultOfStore(q.store); code != impl.OK {
		return storeAnswer{code: code}
	}
	if !nameText.MatchString(q.a) {
		return storeAnswer{code: impl.ErrText}
	}
	if code := faultOfShape(q.shape); code != impl.OK {
		return storeAnswer{code: code}
	}
	spot, isThere := spotOf(q.store, q.a)
	list := slices.Clone(q.store.List)
	switch {
	case isThere:
		list[spot].Shape = q.shape
	case len(list) == mostNames:
		return storeAnswer{code: impl.ErrFull}
	default:
		list = slices.Insert(list, spot, named(q.a, q.shape))
	}
	return storeAnswer{store: impl.Store{List: list}}
}

func wantDrop(q storeQuestion) storeAnswer {
	if got := wantGet(q); got.code != impl.OK {
		return storeAnswer{code: got.code}
	}
	spot, _ := spotOf(q.store, q.a)
	return storeAnswer{store: impl.Store{List: slices.Concat(q.store.List[:spot], q.store.List[spot+1:])}}
}

// askedOf are the points of the shapes of these names, each of which has to be of one of the kinds.
func askedOf(s impl.Store, kinds []int64, names ...string) (lists [][]impl.Point, code int64) {
	isFit := true
	for _, name := range names {
		got := wantGet(storeQuestion{store: s, a: name})
		if got.code != impl.OK {
			return nil, got.code
		}
		lists = append(lists, got.shape.Points)
		isFit = isFit && slices.Contains(kinds, got.shape.Kind)
	}
	if !isFit {
		return nil, impl.ErrForm
	}
	return lists, impl.OK
}

// told keeps what is reckoned without the program, which takes long, since the tests ask much of the same points.
var told = map[string]any{}

// once is what reckon tells of these lists.
func once[T any](what string, lists [][]impl.Point, reckon func() T) T {
	key := fmt.Sprint(what, lists)
	if _, isKnown := told[key]; !isKnown {
		told[key] = reckon()
	}
	return told[key].(T)
}

func wantDistance(q storeQuestion) storeAnswer {
	lists, code := askedOf(q.store, setKinds, q.a, q.b)
	if code != impl.OK {
		return storeAnswer{code: code}
	}
	return storeAnswer{far: rangesBetween(lists[0], lists[1])[2]}
}

func wantLength(q storeQuestion) storeAnswer {
	lists, code := askedOf(q.store, wayKinds, q.a)
	if code != impl.OK {
		return storeAnswer{code: code}
	}
	return storeAnswer{far: once("length", lists, func() impl.Range { return steps(96).length(lists[0]) })}
}

func wantArea(q storeQuestion) storeAnswer {
	lists, code := askedOf(q.store, ringKinds, q.a)
	if code != impl.OK {
		return storeAnswer{code: code}
	}
	return ofFar(once("area", lists, func() impl.RangeResult { return steps(96).area(lists[0]) }))
}

// rangesBetween are what is told of how far two sets are from each other, with one precision after the other.
func rangesBetween(a []impl.Point, b []impl.Point) []impl.Range {
	return once("ranges", [][]impl.Point{a, b}, func() []impl.Range { return rangesOf(setPair{a, b}) })
}

func wantScan(q storeQuestion) storeAnswer {
	lists, code := askedOf(q.store, setKinds, q.a)
	if code != impl.OK {
		return storeAnswer{code: code}
	}
	if q.far < 0 || q.far > mostFar {
		return storeAnswer{code: impl.ErrRange}
	}
	var names [3][]string
	for _, each := range otherSets(q.store, q.a) {
		asked := askOf(rangesBetween(lists[0], each.Shape.Points), q.far)
		at := asked.Answer - yes
		names[at] = append(names[at], each.Name)
	}
	return storeAnswer{names: names}
}

// otherSets are the sets of a store that have another name.
func otherSets(s impl.Store, name string) []impl.Named {
	var sets []impl.Named
	for _, each := range s.List {
		if each.Name != name && slices.Contains(setKinds, each.Shape.Kind) {
			sets = append(sets, each)
		}
	}
	return sets
}

// wantNames counts the sets of the store.
func wantNames(q storeQuestion) storeAnswer {
	if code := faultOfStore(q.store); code != impl.OK {
		return storeAnswer{code: code}
	}
	// No store without a fault has this name.
	return storeAnswer{count: int64(len(otherSets(q.store, "")))}
}

func named(name string, s impl.Shape) impl.Named {
	return impl.Named{Name: name, Shape: s}
}

func storeOf(list ...impl.Named) impl.Store {
	return impl.Store{List: list}
}

func shapeOf(kind int64, points ...impl.Point) impl.Shape {
	return impl.Shape{Kind: kind, Points: points}
}

// storedSets are sets at one place, near to each other and far, some of them at the same place by other numbers or of another kind.
func storedSets() []impl.Shape {
	d := dice(171)
	crowd := d.places(mostPoints - 1)
	return []impl.Shape{
		shapeOf(kindPoint, pointAt(0, 0)), shapeOf(kindPoint, pointAt(1, 0)), shapeOf(kindMulti, pointAt(0, 0)), shapeOf(kindPoint, pointAt(halfLon, 5)), shapeOf(kindMulti, pointAt(-halfLon, 5), pointAt(-halfLon, 5)),
		shapeOf(kindPoint, pointAt(7, poleLat)), shapeOf(kindPoint, pointAt(-poleLat, poleLat)), shapeOf(kindMulti, pointAt(50*degree, 10*degree), pointAt(degree, 0), pointAt(-20*degree, -30*degree)), shapeOf(kindMulti, append(crowd, pointAt(100, 0))...), shapeOf(kindPoint, d.point()),
	}
}

// storedWays are lines and rings, among them rings of which no area is told, or only at higher precisions.
func storedWays() []impl.Shape {
	d := dice(172)
	a, far := pointAt(0, 0), int64(10*degree)
	high, low := pointAt(0, poleLat-1), pointAt(176*degree, 1-poleLat)
	return []impl.Shape{
		shapeOf(kindLine, a, pointAt(degree, 0)), shapeOf(kindLine, d.places(mostPoints)...), shapeOf(kindLine, a, a), shapeOf(kindLine, a, pointAt(far, 0), pointAt(far, far), a),
		shapeOf(kindRing, a, pointAt(0, far), pointAt(far, far), pointAt(far, 0), a), shapeOf(kindRing, d.ring(mostPoints)...), shapeOf(kindRing, a, pointAt(0, poleLat), pointAt(far, far), a), shapeOf(kindRing, a, pointAt(farStep, 0), pointAt(far, far), a),
		shapeOf(kindRing, high, low, a, high), shapeOf(kindRing, alike(4, a)...),
	}
}

// fullNames are as many as a store can have, rising; some of them others begin with.
var fullNames = []string{"0", "00", "09", "9", "a", "a0", "aa", "aaaaaaaa", "ab", "z9"}

// storeWith is the store of these names, in which the shapes come in turn.
func storeWith(names []string, shapes ...impl.Shape) impl.Store {
	var list []impl.Named
	for i, name := range names {
		list = append(list, named(name, shapes[i%len(shapes)]))
	}
	return impl.Store{List: list}
}

// soundStores are stores of none, of one, of a few and of as many as there may be; of sets alone, of ways alone, and of both.
func soundStores() []impl.Store {
	sets, ways := storedSets(), storedWays()
	list := []impl.Store{{}, {List: []impl.Named{}}, storeWith(fullNames, sets...), storeWith(fullNames, ways...)}
	for i := range sets {
		one := storeOf(named("m", sets[i]))
		list = append(list, one, storeOf(named("m", ways[i])), storeWith([]string{"a", "m"}, ways[i], sets[i]), storeWith([]string{"m", "m0", "z"}, sets[i], sets[(i+1)%len(sets)], ways[i]))
	}
	var both []impl.Shape
	for i := range sets {
		both = append(both, sets[i], ways[i])
	}
	return append(list, storeWith(fullNames, both...), storeWith(fullNames[1:], both[7:]...), storeWith(fullNames[:9], both[3:]...), storeWith([]string{"ab", "abc", "abcd"}, sets...), storeWith([]string{"0", "9", "a", "z"}, sets[5:]...), storeWith([]string{"10", "9", "a9", "b10"}, sets...))
}

// wrongNames are none: of no byte, of too many, of bytes just below and just above those of a name, in capital letters, with blanks, and not ASCII.
func wrongNames() []string {
	return []string{
		"", "abcdefghi", "000000000", strings.Repeat("a", 100), "`", "{", "/", ":", "a`", "{a", "a/a", "0:", "abcdefg{", "`bcdefgh", "A", "Z", "M", "aB", "Ab", "ABCDEFGH",
		" ", "m ", " m", "m m", "a b", "\t", "m\n", "\nm", "m\x00", "\x00", "é", "mé", "ａ", "٣", "²", "\xff", "m\xff", "\x80", "\xe1", "a\u00a0", "ſ", "K", "-", "_", "a-b", "a_b", "a.b", "0.5", "-1", "+1",
	}
}

// askedNames are the names of a store, those just ahead of each and just behind it, and some others, with such as are none.
func askedNames(s impl.Store) []string {
	names := append([]string{"0", "1", "a", "ac", "l", "m", "mm", "n", "z", "zzzzzzzz"}, wrongNames()[:8]...)
	for _, each := range s.List {
		names = append(names, each.Name, each.Name+"0", each.Name[:len(each.Name)-1], strings.ToUpper(each.Name), each.Name+" ")
	}
	slices.Sort(names)
	return slices.Compact(names)
}

// The tests' own store fits to what the document says of it.
func TestTrueStores(t *testing.T) {
	rising := []string{"0", "00", "01", "1", "9", "9z", "a", "a0", "a9", "aa", "ab", "b", "z", "z0", "zz"}
	for i, a := range rising {
		for j, b := range rising {
			if isAheadOf(a, b) != (i < j) {
				t.Errorf("%q and %q", a, b)
			}
		}
	}
	for _, name := range wrongNames() {
		if nameText.MatchString(name) {
			t.Errorf("%q is a name", name)
		}
	}
	for i, s := range soundStores() {
		if code := faultOfStore(s); code != impl.OK {
			t.Errorf("the store %d, %v: %d", i, s, code)
		}
	}
	a, b := shapeOf(kindPoint, pointAt(0, 0)), shapeOf(kindPoint, pointAt(5, 0))
	got := wantPut(storeQuestion{store: storeOf(named("a", a), named("c", a)), a: "b", shape: b})
	if got.text() != (storeAnswer{store: storeOf(named("a", a), named("b", b), named("c", a))}).text() {
		t.Errorf("put: got %v", got)
	}
	got = wantDrop(storeQuestion{store: got.store, a: "a"})
	if got.text() != (storeAnswer{store: storeOf(named("b", b), named("c", a))}).text() {
		t.Errorf("drop: got %v", got)
	}
}
