package tests

import (
	"fmt"
	"math"
	"slices"
	"strings"
	"testing"

	"loop.example/g00742/impl"
)

func TestPromise10Numbers(t *testing.T) {
	if impl.MaxNames != mostNames {
		t.Error("MaxNames")
	}
}

func checkName(t *testing.T, name string) {
	t.Helper()
	if got, want := impl.IsName(name), nameText.MatchString(name); got != want {
		t.Errorf("IsName of %q: got %v", name, got)
	}
}

func TestPromise10NamesByHand(t *testing.T) {
	for _, name := range []string{"a", "z", "0", "9", "m", "5", "az", "09", "a0", "0a", "z9", "00", "aa", "way", "abcdefgh", "zzzzzzzz", "00000000", "99999999", "12345678", "a1b2c3d4", "0x1f"} {
		if !impl.IsName(name) {
			t.Errorf("%q is no name", name)
		}
	}
	for _, name := range wrongNames() {
		if impl.IsName(name) {
			t.Errorf("%q is a name", name)
		}
	}
}

// Each byte by itself, and at each place of a name of each length.
func TestPromise10NamesOfEachByte(t *testing.T) {
	for letter := range 256 {
		for long := range longestName + 3 {
			for at := range long {
				name := strings.Repeat("k", at) + string([]byte{byte(letter)}) + strings.Repeat("7", long-at-1)
				checkName(t, name)
			}
		}
		for other := range 256 {
			checkName(t, string([]byte{byte(letter), byte(other)}))
		}
	}
	for letter := range rune(0x3000) {
		checkName(t, string(letter))
		checkName(t, "a"+string(letter))
	}
}

func TestPromise10NamesOfEachLength(t *testing.T) {
	for _, letter := range []string{"a", "z", "0", "9", "A", " ", "é"} {
		for long := range 300 {
			name := strings.Repeat(letter, long)
			checkName(t, name)
			if long > longestName && impl.IsName(name) {
				t.Errorf("%q is a name", name)
			}
		}
	}
}

// faultyStore is a store with a fault, and the code that chapter 9 has for it.
type faultyStore struct {
	store impl.Store
	code  int64
}

// faultyShape is a shape with a fault, and its code.
type faultyShape struct {
	shape impl.Shape
	code  int64
}

func faultyShapes() []faultyShape {
	a, b, off := pointAt(0, 0), pointAt(degree, degree), pointAt(halfLon+1, 0)
	return []faultyShape{
		{impl.Shape{}, impl.ErrForm}, {shapeOf(0, a), impl.ErrForm}, {shapeOf(5, a, a, a, a), impl.ErrForm}, {shapeOf(-1, off), impl.ErrForm}, {shapeOf(kindRing, a, b, b, b), impl.ErrForm}, {shapeOf(kindRing, pointAt(halfLon, 5), a, b, pointAt(-halfLon, 5)), impl.ErrForm},
		{shapeOf(kindPoint), impl.ErrMany}, {shapeOf(kindMulti), impl.ErrMany}, {shapeOf(kindPoint, a, b), impl.ErrMany}, {shapeOf(kindLine, a), impl.ErrMany}, {shapeOf(kindRing, a, b, a), impl.ErrMany}, {shapeOf(kindMulti, alike(13, off)...), impl.ErrMany},
		{shapeOf(kindPoint, off), impl.ErrRange}, {shapeOf(kindPoint, a, off), impl.ErrRange}, {shapeOf(kindMulti, a, pointAt(0, -poleLat-1)), impl.ErrRange}, {shapeOf(kindLine, pointAt(math.MinInt64, 0)), impl.ErrRange}, {shapeOf(kindRing, off, a, b, b), impl.ErrRange},
	}
}

// with is the store with another name and shape at that place.
func with(s impl.Store, at int, name string, shape impl.Shape) impl.Store {
	list := slices.Clone(s.List)
	list[at] = named(name, shape)
	return impl.Store{List: list}
}

// faultyStores have each fault at each place, alone and with those that are asked later.
func faultyStores() []faultyStore {
	list := append(manyStores(), unsortedStores()...)
	full := storeWith(fullNames, storedSets()...)
	for at := range full.List {
		sound := full.List[at].Shape
		for i, name := range wrongNames() {
			wrong := faultyShapes()[i%len(faultyShapes())]
			list = append(list, faultyStore{with(full, at, name, sound), impl.ErrText}, faultyStore{with(full, at, name, wrong.shape), impl.ErrText})
			if at > 0 {
				// The fault of what is ahead is told.
				list = append(list, faultyStore{with(with(full, at, name, sound), at-1, fullNames[at-1], wrong.shape), wrong.code}, faultyStore{with(with(full, at-1, name, sound), at, fullNames[at], wrong.shape), impl.ErrText})
			}
		}
		for i, wrong := range faultyShapes() {
			list = append(list, faultyStore{with(full, at, fullNames[at], wrong.shape), wrong.code})
			// That they do not rise is asked behind each of them.
			list = append(list, faultyStore{with(full, at, fullNames[(at+5)%mostNames], wrong.shape), wrong.code})
			next := faultyShapes()[(i+7)%len(faultyShapes())]
			if at > 0 {
				list = append(list, faultyStore{with(with(full, at-1, fullNames[at-1], wrong.shape), at, fullNames[at], next.shape), wrong.code})
			}
		}
	}
	return list
}

// manyStores have one name more than there may be, or far more, with each other fault too.
func manyStores() []faultyStore {
	rising := slices.Insert(slices.Clone(fullNames), 2, "000")
	names := [][]string{rising, append([]string{"-"}, fullNames...), append([]string{"z"}, fullNames...), append([]string{"0"}, fullNames...), slices.Repeat([]string{"a"}, mostNames+1), slices.Repeat([]string{""}, mostNames+1), slices.Repeat(fullNames, 100)}
	var list []faultyStore
	for _, shape := range []impl.Shape{storedSets()[0], storedWays()[0], {}, shapeOf(kindPoint), shapeOf(kindPoint, pointAt(halfLon+1, 0))} {
		for _, each := range names {
			list = append(list, faultyStore{storeWith(each, shape), impl.ErrMany})
		}
	}
	return list
}

// unsortedStores have names that do not rise, or two that are alike.
func unsortedStores() []faultyStore {
	sets := storedSets()
	var list []faultyStore
	for _, names := range [][]string{{"b", "a"}, {"a", "a"}, {"ab", "a"}, {"a0", "a"}, {"aa", "a0"}, {"a", "9"}, {"0", "00", "0"}, {"b", "c", "a"}, {"a", "c", "b"}, {"a", "b", "b"}, {"a", "a", "b"}, {"c", "b", "a"}, {"z", "a", "z"}, {"9", "10"}, {"aaaaaaaa", "aaaaaaa"}, {"abcdefgh", "abcdefgh"}} {
		list = append(list, faultyStore{storeWith(names, sets...), impl.ErrForm}, faultyStore{storeWith(names, sets[0]), impl.ErrForm})
	}
	for at := range fullNames[1:] {
		swapped := slices.Clone(fullNames)
		swapped[at], swapped[at+1] = swapped[at+1], swapped[at]
		alike := slices.Clone(fullNames)
		alike[at] = alike[at+1]
		list = append(list, faultyStore{storeWith(swapped, sets...), impl.ErrForm}, faultyStore{storeWith(alike, sets...), impl.ErrForm})
	}
	return list
}

func TestPromise10StoreFaults(t *testing.T) {
	for _, s := range soundStores() {
		if code := impl.StoreFault(s); code != impl.OK {
			t.Errorf("StoreFault of %v: got %d", s, code)
		}
	}
	for _, f := range faultyStores() {
		if code := impl.StoreFault(f.store); code != f.code || faultOfStore(f.store) != f.code {
			t.Errorf("StoreFault of %v: got %d, want %d", f.store, code, f.code)
		}
	}
}

// The fault of a store is told first, and nothing else, whatever else is asked.
func TestPromise10FaultsOfStores(t *testing.T) {
	sound, wrong := storedSets()[0], faultyShapes()
	for i, f := range faultyStores() {
		for _, name := range []string{"a", "ab", "m", "", "A", "abcdefghi"} {
			for _, c := range storeCalls() {
				if c.name == "IsName" || c.name == "SameStores" {
					continue
				}
				for _, shape := range []impl.Shape{sound, wrong[i%len(wrong)].shape} {
					c.checkCode(t, storeQuestion{store: f.store, a: name, b: "a", shape: shape, far: 5}, f.code)
				}
				c.checkCode(t, storeQuestion{store: f.store, a: "a", b: name, shape: sound, far: -1}, f.code)
			}
		}
	}
}

// Each name of a store, and each that is near to one of these, is asked of, put and dropped.
func TestPromise10GetPutDrop(t *testing.T) {
	shapes := append(storedSets()[:3], storedWays()[0], storedWays()[4])
	for _, f := range faultyShapes() {
		shapes = append(shapes, f.shape)
	}
	for _, s := range soundStores() {
		for _, name := range askedNames(s) {
			for _, c := range storeCalls() {
				switch c.name {
				case "GetShape", "DropShape":
					c.check(t, storeQuestion{store: s, a: name})
				case "PutShape":
					for _, shape := range shapes {
						c.check(t, storeQuestion{store: s, a: name, shape: shape})
					}
				}
			}
		}
	}
}

// isLike tells that there is this shape under the name, and no code.
func isLike(s impl.Store, name string, shape impl.Shape) bool {
	got := impl.GetShape(s, name)
	return got.Code == impl.OK && got.Shape.Kind == shape.Kind && slices.Equal(got.Shape.Points, shape.Points)
}

// checkRest checks that all but one name is in a store as it was, and nothing else.
func checkRest(t *testing.T, what string, was impl.Store, is impl.Store, name string) {
	t.Helper()
	if code := impl.StoreFault(is); code != impl.OK {
		t.Errorf("%s: the store has the fault %d", what, code)
	}
	for _, each := range was.List {
		if each.Name != name && !isLike(is, each.Name, each.Shape) {
			t.Errorf("%s: %q is not as it was", what, each.Name)
		}
	}
	for _, each := range is.List {
		if each.Name != name && !isLike(was, each.Name, each.Shape) {
			t.Errorf("%s: %q was not there", what, each.Name)
		}
	}
}

// What was put is there, what was dropped is not, and all else is as it was.
func TestPromise10PutIsThere(t *testing.T) {
	shape := shapeOf(kindMulti, pointAt(3, 4), pointAt(5, 6))
	for _, s := range soundStores() {
		for _, name := range askedNames(s) {
			what := fmt.Sprintf("%q in %v", name, s)
			put := impl.PutShape(s, name, shape)
			if put.Code != impl.OK {
				continue
			}
			checkRest(t, "put "+what, s, put.Store, name)
			if !isLike(put.Store, name, shape) {
				t.Errorf("put %s: it is not there", what)
			}
			dropped := impl.DropShape(put.Store, name)
			checkRest(t, "dropped "+what, s, dropped.Store, name)
			if got := impl.GetShape(dropped.Store, name); dropped.Code != impl.OK || got.Code != impl.ErrNone {
				t.Errorf("dropped %s: it is there", what)
			}
			was := impl.GetShape(s, name)
			back := dropped
			if was.Code == impl.OK {
				back = impl.PutShape(dropped.Store, name, was.Shape)
			}
			if back.Code != impl.OK || !impl.SameStores(back.Store, s) {
				t.Errorf("put %s and dropped again: got %v", what, back)
			}
		}
	}
}

// Shapes are put and dropped in any order, and what is there is as a map has it.
func TestPromise10Walks(t *testing.T) {
	names := append(slices.Clone(fullNames), "b", "a00", "aaaaaaa", "zzzzzzzz", "1")
	shapes := append(storedSets(), storedWays()...)
	isFull, isEmpty := 0, 0
	for seed := range dice(12) {
		d := dice(180 + seed)
		var s impl.Store
		held := map[string]impl.Shape{}
		for range 250 {
			name, shape := names[d.below(len(names))], shapes[d.below(len(shapes))]
			_, isThere := held[name]
			var got impl.StoreResult
			want := int64(impl.OK)
			// At first there is more put than dropped, and then the other way.
			if d.below(10) < 3+int(seed)%4 {
				got = impl.DropShape(s, name)
				if !isThere {
					want = impl.ErrNone
				}
				delete(held, name)
			} else {
				got = impl.PutShape(s, name, shape)
				if !isThere && len(held) == mostNames {
					want = impl.ErrFull
				} else {
					held[name] = shape
				}
			}
			if got.Code != want {
				t.Fatalf("%q in %v: got %v, want %d", name, s, got, want)
			}
			if want == impl.OK {
				s = got.Store
			} else if len(got.Store.List) > 0 {
				t.Fatalf("%q in %v: got %v", name, s, got)
			}
			checkHeld(t, s, held, names)
			if len(held) == mostNames {
				isFull++
			}
			if len(held) == 0 {
				isEmpty++
			}
		}
	}
	if isFull < 50 || isEmpty < 10 {
		t.Errorf("the store was full %d times, and empty %d times", isFull, isEmpty)
	}
}

// checkHeld checks that a store has what a map has, and rises.
func checkHeld(t *testing.T, s impl.Store, held map[string]impl.Shape, names []string) {
	t.Helper()
	if len(s.List) != len(held) || faultOfStore(s) != impl.OK {
		t.Fatalf("got %v, want %v", s, held)
	}
	for _, name := range names {
		if shape, isThere := held[name]; isThere != isLike(s, name, shape) {
			t.Fatalf("%q in %v, want %v", name, s, held)
		}
	}
}

// A store of MaxNames takes no new name, but another shape in place of one that is there.
func TestPromise10Full(t *testing.T) {
	full := storeWith(fullNames, storedSets()...)
	line, off := storedWays()[0], shapeOf(kindPoint, pointAt(0, poleLat+1))
	for _, c := range []struct {
		name  string
		shape impl.Shape
		code  int64
	}{
		{"000", line, impl.ErrFull}, {"b", line, impl.ErrFull}, {"zzzzzzzz", line, impl.ErrFull}, {"aaaaaaa", line, impl.ErrFull}, {"0", line, impl.OK}, {"aa", line, impl.OK}, {"z9", line, impl.OK},
		// The name is asked first, then the shape, then whether there is room.
		{"", line, impl.ErrText}, {"Z9", line, impl.ErrText}, {"aaaaaaaaa", line, impl.ErrText}, {"a ", off, impl.ErrText}, {"", impl.Shape{}, impl.ErrText}, {"b", off, impl.ErrRange}, {"b", impl.Shape{}, impl.ErrForm}, {"b", shapeOf(kindLine, pointAt(0, 0)), impl.ErrMany}, {"aa", off, impl.ErrRange}, {"aa", shapeOf(kindPoint), impl.ErrMany},
	} {
		got := impl.PutShape(full, c.name, c.shape)
		if got.Code != c.code || c.code != impl.OK && len(got.Store.List) > 0 {
			t.Errorf("PutShape of %q and %v: got %v, want %d", c.name, c.shape, got, c.code)
		}
		if c.code == impl.OK && (len(got.Store.List) != mostNames || !isLike(got.Store, c.name, c.shape)) {
			t.Errorf("PutShape of %q and %v: got %v", c.name, c.shape, got)
		}
	}
	nine := storeWith(fullNames[1:], storedSets()...)
	if got := impl.PutShape(nine, "0", line); got.Code != impl.OK || len(got.Store.List) != mostNames || got.Store.List[0].Name != "0" {
		t.Errorf("PutShape into a store of nine: got %v", got)
	}
}

func TestPromise10DropTheOnlyOne(t *testing.T) {
	for _, shape := range append(storedSets(), storedWays()...) {
		got := impl.DropShape(storeOf(named("m", shape)), "m")
		if got.Code != impl.OK || len(got.Store.List) != 0 || !impl.SameStores(got.Store, impl.Store{}) {
			t.Errorf("got %v", got)
		}
		for _, name := range []string{"", "M", "mm", "l", "n", "m "} {
			if got := impl.DropShape(storeOf(named("m", shape)), name); got.Code != impl.ErrNone || len(got.Store.List) != 0 {
				t.Errorf("DropShape of %q: got %v", name, got)
			}
		}
	}
}

// What is told of one name is told of the same name alone, whichever other names it begins with, or begin with it.
func TestPromise10Beginnings(t *testing.T) {
	names := []string{"a", "ab", "abc", "abcd", "abcde", "abcdef", "abcdefg", "abcdefgh"}
	sets := storedSets()
	var s impl.Store
	for _, i := range []int{3, 0, 7, 5, 1, 6, 2, 4} {
		s = impl.PutShape(s, names[i], sets[i]).Store
	}
	for i, name := range names {
		if s.List[i].Name != name || !isLike(s, name, sets[i]) {
			t.Errorf("%q in %v", name, s)
		}
		dropped := impl.DropShape(s, name)
		checkRest(t, "dropped "+name, s, dropped.Store, name)
		if len(dropped.Store.List) != len(names)-1 {
			t.Errorf("DropShape of %q: got %v", name, dropped)
		}
	}
	for _, name := range []string{"", "b", "ac", "abd", "abcdefghi", "ABC"} {
		if got := impl.GetShape(s, name); got.Code != impl.ErrNone {
			t.Errorf("GetShape of %q: got %v", name, got)
		}
	}
}

// measureStores are stores of which much is measured: of sets alone, of ways alone, and of both.
func measureStores() []impl.Store {
	sets, ways := storedSets(), storedWays()
	mixed := append(append(slices.Clone(sets[:4]), ways[4:7]...), sets[7], ways[0], ways[8])
	return []impl.Store{{}, storeWith(fullNames, sets...), storeWith(fullNames, ways...), storeWith(fullNames, mixed...), storeOf(named("m", sets[7])), storeOf(named("m", ways[4]))}
}

// What is told of a store is what is told of its shapes, by the steps of the chapters 5 to 7.
func TestPromise10Measures(t *testing.T) {
	for _, s := range measureStores() {
		names := append([]string{"", "A", "b", "aaa", "m"}, fullNames...)
		for _, a := range names {
			for _, c := range rangeCalls()[:3] {
				for _, b := range names {
					c.check(t, storeQuestion{store: s, a: a, b: b})
					if c.name != "DistanceIn" {
						break
					}
				}
			}
		}
	}
}

// scanFars are the bounds and what is just out of them, and far ones at which the sets are told apart.
func scanFars() []int64 {
	return append(badFars(), 0, 1, 91, 92, 100, 111, 112, 161, 11119, 11120, 537039, 111195080229, 111195080233, 111195080234, 5000000000000, 20015114442035, 20015114442036, mostFar-1, mostFar)
}

func TestPromise10Scans(t *testing.T) {
	scan := rangeCalls()[3]
	for i, s := range measureStores() {
		for _, name := range append([]string{"", "A", "b", "m"}, fullNames...) {
			for j, far := range scanFars() {
				// Each name is asked at some of these, and all of them come in turn.
				if far < 0 || far > mostFar || (i+j+len(name))%3 == 0 || name == "0" {
					scan.check(t, storeQuestion{store: s, a: name, far: far})
				}
			}
		}
	}
}

// Each other set is in one of the three lists, each list rises, and what is in it is so.
func TestPromise10EachSetInOneList(t *testing.T) {
	told := map[int]bool{}
	for _, s := range measureStores() {
		for _, each := range s.List {
			for _, far := range []int64{0, 100, 111, 537039, 5000000000000, mostFar} {
				got := impl.ScanWithin(s, each.Name, far)
				if !slices.Contains(setKinds, each.Shape.Kind) {
					continue
				}
				var want []string
				for _, other := range otherSets(s, each.Name) {
					want = append(want, other.Name)
				}
				all := slices.Sorted(slices.Values(slices.Concat(got.Yes, got.No, got.Unknown)))
				if got.Code != impl.OK || !slices.Equal(all, want) {
					t.Errorf("ScanWithin of %q in %v at %d: got %v, want %v in all", each.Name, s, far, got, want)
				}
				for answer, list := range [][]string{got.Yes, got.No, got.Unknown} {
					checkList(t, s, each.Name, far, list, int64(answer)+yes)
					told[answer] = told[answer] || len(list) > 1
				}
			}
		}
	}
	if len(told) != 3 || !told[0] || !told[1] || !told[2] {
		t.Errorf("not each list has more than one name: %v", told)
	}
}

// checkList checks that all names of a list are rightly there.
func checkList(t *testing.T, s impl.Store, name string, far int64, list []string, answer int64) {
	t.Helper()
	if !slices.IsSorted(list) {
		t.Errorf("ScanWithin of %q in %v at %d: %q do not rise", name, s, far, list)
	}
	for _, other := range list {
		got := impl.DistanceIn(s, name, other)
		if want := impl.ThreeOf(got.Range, far); got.Code != impl.OK || want.Value != answer {
			t.Errorf("ScanWithin of %q in %v at %d: %q is %v away, and told %d", name, s, far, other, got, answer)
		}
	}
}

// checkScan checks a scan by hand.
func checkScan(t *testing.T, s impl.Store, name string, far int64, lists ...[]string) {
	t.Helper()
	got := impl.ScanWithin(s, name, far)
	if got.Code != impl.OK || !slices.Equal(got.Yes, lists[0]) || !slices.Equal(got.No, lists[1]) || !slices.Equal(got.Unknown, lists[2]) {
		t.Errorf("ScanWithin of %q at %d: got %v, want %v", name, far, got, lists)
	}
}

func TestPromise10ScansByHand(t *testing.T) {
	at := func(lon int64) impl.Shape { return shapeOf(kindPoint, pointAt(lon, 0)) }
	line := storedWays()[0]
	s := storeOf(named("a", at(1)), named("b", at(0)), named("c", at(degree)), named("d", line), named("e", shapeOf(kindMulti, pointAt(degree, 0), pointAt(1, 0))), named("f", at(0)), named("g", at(-1)), named("h", storedWays()[4]))
	checkScan(t, s, "b", 0, []string{"f"}, []string{"a", "c", "e", "g"}, nil)
	checkScan(t, s, "b", 110, []string{"f"}, []string{"a", "c", "e", "g"}, nil)
	checkScan(t, s, "b", 111, []string{"f"}, []string{"c"}, []string{"a", "e", "g"})
	checkScan(t, s, "b", 112, []string{"a", "e", "f", "g"}, []string{"c"}, nil)
	checkScan(t, s, "b", 111195080233, []string{"a", "e", "f", "g"}, nil, []string{"c"})
	checkScan(t, s, "b", mostFar, []string{"a", "c", "e", "f", "g"}, nil, nil)
	checkScan(t, s, "c", 0, []string{"e"}, []string{"a", "b", "f", "g"}, nil)
	// One that has no other set, alone or beside ways.
	for _, far := range []int64{0, 1, 100, mostFar - 1, mostFar} {
		checkScan(t, storeOf(named("a", at(1))), "a", far, nil, nil, nil)
		checkScan(t, storeOf(named("a", at(1)), named("d", line)), "a", far, nil, nil, nil)
		checkScan(t, storeOf(named("a", line), named("b", storedWays()[4]), named("c", at(1))), "c", far, nil, nil, nil)
	}
	// The same set under another name is another set.
	checkScan(t, storeWith([]string{"a", "aa", "b"}, at(5)), "aa", 0, []string{"a", "b"}, nil, nil)
}

// The code of the name is told first, then that it is no set, then that of far.
func TestPromise10ScanCodes(t *testing.T) {
	set, line, ring := storedSets()[0], storedWays()[0], storedWays()[4]
	alone := storeOf(named("set", set))
	s := storeOf(named("line", line), named("ring", ring), named("set", set), named("set2", set))
	for _, far := range append(badFars(), 0, 1, mostFar-1, mostFar) {
		want := int64(impl.OK)
		if far < 0 || far > mostFar {
			want = impl.ErrRange
		}
		for _, c := range []struct {
			store impl.Store
			name  string
			code  int64
		}{
			{s, "line", impl.ErrForm}, {s, "ring", impl.ErrForm}, {s, "", impl.ErrNone}, {s, "se", impl.ErrNone}, {s, "Set", impl.ErrNone}, {s, "zz", impl.ErrNone}, {impl.Store{}, "set", impl.ErrNone}, {s, "set", want}, {s, "set2", want}, {alone, "set", want}, {alone, "line", impl.ErrNone},
		} {
			got := impl.ScanWithin(c.store, c.name, far)
			if got.Code != c.code || c.code != impl.OK && len(got.Yes)+len(got.No)+len(got.Unknown) > 0 {
				t.Errorf("ScanWithin of %q in %v at %d: got %v, want %d", c.name, c.store, far, got, c.code)
			}
		}
	}
}

// farCheck is what is told of a name or two in a store, and what it has to be.
type farCheck struct {
	what string
	got  impl.RangeResult
	want impl.RangeResult
}

func checkFars(t *testing.T, list []farCheck) {
	t.Helper()
	for _, c := range list {
		if c.got != c.want {
			t.Errorf("%s: got %v, want %v", c.what, c.got, c.want)
		}
	}
}

// A degree of the equator is so many millionths of a metre long, and a box of ten degrees so many square metres great.
var (
	oneDegree = impl.RangeResult{Range: impl.Range{Low: 111195080233, High: 111195080234}}
	tenBox    = impl.RangeResult{Range: impl.Range{Low: 1233204238941, High: 1233204238942}}
)

// mixedStore has sets, lines and rings, among them two sets that are at one place by other numbers, and a ring and the same one the other way around.
func mixedStore() impl.Store {
	a, far := pointAt(0, 0), int64(10*degree)
	return storeOf(
		named("0point", shapeOf(kindPoint, a)), named("1multi", shapeOf(kindMulti, pointAt(5*degree, 0), pointAt(degree, 0))), named("2line", shapeOf(kindLine, a, pointAt(degree, 0))),
		named("3ring", shapeOf(kindRing, a, pointAt(0, far), pointAt(far, far), pointAt(far, 0), a)), named("4back", shapeOf(kindRing, a, pointAt(far, 0), pointAt(far, far), pointAt(0, far), a)),
		named("5open", shapeOf(kindLine, a, pointAt(far, 0), pointAt(far, far), a)), named("6east", shapeOf(kindPoint, pointAt(halfLon, 5))), named("7west", shapeOf(kindMulti, pointAt(-halfLon, 5))), named("8polar", shapeOf(kindRing, a, pointAt(0, poleLat), pointAt(far, far), a)),
		named("9there", shapeOf(kindLine, a, pointAt(degree, 0), a)),
	)
}

func TestPromise10DistancesByHand(t *testing.T) {
	s := mixedStore()
	none, form, zero := impl.RangeResult{Code: impl.ErrNone}, impl.RangeResult{Code: impl.ErrForm}, impl.RangeResult{}
	var list []farCheck
	for _, c := range []struct {
		a, b string
		want impl.RangeResult
	}{
		{"0point", "1multi", oneDegree}, {"0point", "0point", zero}, {"1multi", "1multi", zero}, {"6east", "7west", zero}, {"6east", "6east", zero}, {"7west", "7west", zero},
		{"0point", "2line", form}, {"0point", "3ring", form}, {"2line", "3ring", form}, {"2line", "2line", form}, {"3ring", "3ring", form}, {"5open", "1multi", form}, {"8polar", "8polar", form},
		// That there is none is told of both ahead of what it is.
		{"0point", "no", none}, {"2line", "no", none}, {"3ring", "no", none}, {"no", "no", none}, {"no", "nor", none}, {"no", "", none}, {"", "", none}, {"", "0point", none}, {"0poin", "0point", none}, {"0points", "0point", none}, {"0POINT", "0point", none},
	} {
		list = append(list, farCheck{fmt.Sprintf("DistanceIn of %q and %q", c.a, c.b), impl.DistanceIn(s, c.a, c.b), c.want}, farCheck{fmt.Sprintf("DistanceIn of %q and %q", c.b, c.a), impl.DistanceIn(s, c.b, c.a), c.want})
	}
	checkFars(t, append(list, farCheck{"DistanceIn of none", impl.DistanceIn(impl.Store{}, "a", "a"), none}))
}

func TestPromise10WaysByHand(t *testing.T) {
	s := mixedStore()
	none, form := impl.RangeResult{Code: impl.ErrNone}, impl.RangeResult{Code: impl.ErrForm}
	twoDegrees := impl.RangeResult{Range: impl.Range{Low: 2 * oneDegree.Range.Low, High: 2 * oneDegree.Range.High}}
	back := impl.RangeResult{Range: impl.Range{Low: -tenBox.Range.High, High: -tenBox.Range.Low}}
	around := impl.RangeResult{Range: steps(96).length(s.List[3].Shape.Points)}
	triangle := impl.RangeResult{Range: steps(96).length(s.List[5].Shape.Points)}
	polar := impl.RangeResult{Range: steps(96).length(s.List[8].Shape.Points)}
	checkFars(t, []farCheck{
		{"LengthIn of a line", impl.LengthIn(s, "2line"), oneDegree}, {"LengthIn of a line there and back", impl.LengthIn(s, "9there"), twoDegrees}, {"LengthIn of a line that is closed", impl.LengthIn(s, "5open"), triangle},
		{"LengthIn of a ring", impl.LengthIn(s, "3ring"), around}, {"LengthIn of the ring the other way", impl.LengthIn(s, "4back"), around}, {"LengthIn of a ring over a pole", impl.LengthIn(s, "8polar"), polar},
		{"LengthIn of a point", impl.LengthIn(s, "0point"), form}, {"LengthIn of a set", impl.LengthIn(s, "1multi"), form}, {"LengthIn of a set of one", impl.LengthIn(s, "7west"), form},
		{"LengthIn of none", impl.LengthIn(s, "2lin"), none}, {"LengthIn of no name", impl.LengthIn(s, ""), none}, {"LengthIn of no store", impl.LengthIn(impl.Store{}, "2line"), none},
		{"AreaIn of a ring", impl.AreaIn(s, "3ring"), tenBox}, {"AreaIn of the ring the other way", impl.AreaIn(s, "4back"), back}, {"AreaIn of a ring over a pole", impl.AreaIn(s, "8polar"), form},
		{"AreaIn of a line", impl.AreaIn(s, "2line"), form}, {"AreaIn of a line that is closed", impl.AreaIn(s, "5open"), form}, {"AreaIn of a point", impl.AreaIn(s, "0point"), form}, {"AreaIn of a set", impl.AreaIn(s, "1multi"), form},
		{"AreaIn of none", impl.AreaIn(s, "3rings"), none}, {"AreaIn of no name", impl.AreaIn(s, ""), none}, {"AreaIn of no store", impl.AreaIn(impl.Store{}, "3ring"), none},
	})
}

// differentStores are stores of which no two are the same, with faults and without.
func differentStores() []impl.Store {
	a, b := shapeOf(kindPoint, pointAt(1, 2)), shapeOf(kindPoint, pointAt(2, 1))
	lists := [][]impl.Named{
		nil, {named("a", a)}, {named("a", b)}, {named("b", a)}, {named("ab", a)}, {named("A", a)}, {named("", a)}, {named("a\x00", a)}, {named("\xff", a)}, {named("\xfe", a)}, {named("a", impl.Shape{})}, {named("", impl.Shape{})}, {named("a", shapeOf(kindMulti, pointAt(1, 2)))}, {named("a", shapeOf(7, pointAt(1, 2)))}, {named("a", shapeOf(kindPoint, pointAt(1, 2), pointAt(1, 2)))},
		{named("a", a), named("b", a)}, {named("a", a), named("b", b)}, {named("a", b), named("b", a)}, {named("b", a), named("a", a)}, {named("b", b), named("a", a)}, {named("a", a), named("a", a)}, {named("a", a), named("a", b)}, {named("a", a), named("", impl.Shape{})},
	}
	var list []impl.Store
	for _, each := range lists {
		list = append(list, impl.Store{List: each})
	}
	for _, s := range []impl.Store{storeWith(fullNames, storedSets()...), storeWith(fullNames, storedWays()...)} {
		list = append(list, s)
		for at := range s.List {
			list = append(list, impl.Store{List: s.List[:at+1]}, with(s, at, "m", s.List[at].Shape), with(s, at, s.List[at].Name, a), with(s, at, s.List[at].Name, impl.Shape{}))
		}
	}
	// A whole store is there as the longest of its own beginnings, too.
	slices.SortFunc(list, func(x, y impl.Store) int { return strings.Compare(storeText(x), storeText(y)) })
	return slices.CompactFunc(list, func(x, y impl.Store) bool { return storeText(x) == storeText(y) })
}

// deepStore is a copy of a store that shares nothing with it.
func deepStore(s impl.Store) impl.Store {
	list := make([]impl.Named, 0, len(s.List))
	for _, each := range s.List {
		list = append(list, named(strings.Clone(each.Name), clippedShape(each.Shape)))
	}
	return impl.Store{List: list}
}

func TestPromise10SameStores(t *testing.T) {
	list := differentStores()
	if len(list) < 90 {
		t.Errorf("only %d stores differ", len(list))
	}
	for i, a := range list {
		for j, b := range list {
			if got := impl.SameStores(a, deepStore(b)); got != (i == j) {
				t.Errorf("SameStores of %v and %v: got %v", a, b, got)
			}
		}
	}
	for _, f := range faultyStores() {
		if !impl.SameStores(f.store, deepStore(f.store)) || impl.SameStores(f.store, impl.Store{}) {
			t.Errorf("SameStores of %v", f.store)
		}
	}
}
