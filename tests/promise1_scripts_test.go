package tests

import (
	"math"
	"slices"
	"strings"
	"testing"

	"loop.example/g00742/impl"
)

// pureScripts are lines that do each thing, or tell each code, and scripts of these.
func pureScripts() []string {
	lines := []string{
		"", "  ", "names", "get a", "get 0point", "get 2line", "put a POINT ( 1 2 )", "put new MULTIPOINT(1 2,3 4)", "put 0point LINESTRING(0 0,1 0)", "del a", "del 0point", "del no", "dist a a", "dist 0point 1multi", "len 2line", "len ab", "area 3ring", "dwithin a a 5", "dwithin 0point 1multi 111195.080233", "within a 5", "within 0point 112000",
		"put", "put a", "put A POINT(0 0)", "put a POINT(0 91)", "put a POINT(", "dwithin a a x", "dwithin a a 9999999999", "within a 9999999999", "area a", "foo", strings.Repeat(" ", mostScript+1),
	}
	return append(lines,
		"\n", "names\n", "\n\nnames", "put a POINT(0 0)\nput b POINT(1 0)\nput 00 LINESTRING(0 0,1 0)", "del a\ndel 0point\ndel ab\nnames\n", "put a POINT(0 0)\ndel a", "foo\n\nget a\nbar\n", "put new POINT(7 7)\nput new POINT(8 8)\nput newer POINT(9 9)\nget new\nwithin new 5\n", strings.Join(lines[:20], "\n"), strings.Repeat("\n", mostLines), strings.Repeat("\n", mostLines+1),
	)
}

// pureScriptStores are stores of each kind, and some with each fault.
func pureScriptStores() []impl.Store {
	stores := append(scriptStores(), storeWith(fullNames, storedWays()...), storeWith(fullNames, storedSets()[:3]...))
	for i, f := range faultyStores() {
		if i%61 == 0 {
			stores = append(stores, f.store)
		}
	}
	return stores
}

// No argument is changed, neither the list of a store nor what its shapes hold, nor what is behind it; and a store that is answered shares no memory with the one that was given, also where it stays as it was.
func TestPromise1ScriptsPure(t *testing.T) {
	for _, c := range scriptCalls() {
		for _, s := range pureScriptStores() {
			for _, text := range pureScripts() {
				c.checkPureStore(t, storeQuestion{store: s, a: text})
			}
		}
	}
}

// One list may be that of many shapes of a store; those of an answer share none.
func TestPromise1ScriptsOfOneList(t *testing.T) {
	d := dice(241)
	whole := d.ring(9)
	before := slices.Clone(whole)
	s := oneListStore(whole)
	for _, c := range scriptCalls() {
		for _, text := range append(pureScripts(), "get all", "del all", "put all POINT(0 0)", "len all", "area all", "within same 5", "dwithin same self 5", "put b POINT(0 0)", "put b POINT(0 0)\ndel same\nget tail") {
			want := c.run(storeQuestion{store: deepStore(s), a: text}).text()
			got := c.run(storeQuestion{store: s, a: text})
			if got.text() != want {
				t.Errorf("%s of %q: got %v, want %s", c.name, text, got, want)
			}
			parts := got.parts()
			for part := range len(parts) - 1 {
				got.scribblePart(part)
				for other, told := range got.parts() {
					if other > part && other < len(parts)-1 && told != parts[other] {
						t.Errorf("%s of %q: two lists share memory", c.name, text)
					}
				}
			}
			if !slices.Equal(whole, before) {
				t.Fatalf("%s of %q: an argument is changed, or shares memory with the answer", c.name, text)
			}
		}
	}
}

func TestPromise1ScriptsNilIsEmpty(t *testing.T) {
	none, empty := impl.Store{}, impl.Store{List: []impl.Named{}}
	bare, hollow := storeOf(named("a", impl.Shape{Kind: kindMulti})), storeOf(named("a", impl.Shape{Kind: kindMulti, Points: []impl.Point{}}))
	for _, c := range scriptCalls() {
		for _, text := range pureScripts() {
			for _, pair := range [][2]impl.Store{{none, empty}, {bare, hollow}} {
				got, want := c.run(storeQuestion{store: pair[0], a: text}), c.run(storeQuestion{store: pair[1], a: text})
				if got.text() != want.text() {
					t.Errorf("%s of %q: got %v, and with empty lists %v", c.name, text, got, want)
				}
			}
		}
	}
}

// With a code, all else of an answer is zero; and each code is told.
func TestPromise1ScriptCodes(t *testing.T) {
	for _, c := range scriptCalls() {
		coded := map[int64]bool{}
		for _, s := range pureScriptStores() {
			for _, text := range append(pureScripts(), "put full POINT(0 0)") {
				got := c.run(storeQuestion{store: s, a: text})
				coded[got.code] = true
				if got.code != impl.OK && got.text() != (storeAnswer{code: got.code}).text() {
					t.Errorf("%s of %q: got %v", c.name, text, got)
				}
			}
		}
		if least := map[string]int{"StepScript": 7, "RunScript": 5}[c.name]; len(coded) < least {
			t.Errorf("%s tells only the codes %v", c.name, coded)
		}
	}
}

// The words of one answer are those of no other one, nor kept anywhere.
func TestPromise1WordsPure(t *testing.T) {
	for _, line := range pureScripts() {
		first, second := impl.WordsOf(line), impl.WordsOf(line)
		want := slices.Clone(first.Words)
		scribbleNames(second.Words)
		if !slices.Equal(first.Words, want) {
			t.Errorf("WordsOf of %q: two answers share memory", line)
		}
		if third := impl.WordsOf(line); third.Code != first.Code || !slices.Equal(third.Words, want) {
			t.Errorf("WordsOf of %q: got %v, want %q", line, third, want)
		}
	}
}

// strangeTexts are no texts that a script has, and some that are nearly such.
func strangeTexts() []string {
	list := []string{"\x00", "\xff\xfe", "put \xff POINT(0 0)", "put a \xff", "get \x00", "dwithin a a \xff", "within a \x80", "names\x00", "\u2028names", "put a POINT(٣ 0)", "dist \n a", "put a " + strings.Repeat("(", 500), "put a POINT" + strings.Repeat("(", 2900), "put a " + strings.Repeat("POINT(0 0) ", 200), "within a " + strings.Repeat("9", 2900), "dwithin a a " + strings.Repeat("9", 2900), "get " + strings.Repeat("a", 2900), "put " + strings.Repeat("a ", 1400)}
	for letter := range 256 {
		list = append(list, string([]byte{byte(letter)}), "names"+string([]byte{byte(letter)}), "get "+string([]byte{byte(letter)}))
	}
	return append(list, metreWords()...)
}

// No panic leaves a function, whatever its arguments are.
func TestPromise1ScriptsNoPanic(t *testing.T) {
	stores := append(differentStores(), scriptStores()...)
	for i, text := range append(strangeTexts(), pureScripts()...) {
		for _, c := range scriptCalls() {
			for _, s := range []impl.Store{stores[i%len(stores)], stores[i*7%len(stores)], mixedStore()} {
				if left := panicOf(func() { c.run(storeQuestion{store: s, a: text}) }); left != nil {
					t.Errorf("%s of %q: panic %v", c.name, text, left)
				}
			}
		}
		if left := panicOf(func() { impl.WordsOf(text); impl.ReadMetres(text) }); left != nil {
			t.Errorf("WordsOf or ReadMetres of %q: panic %v", text, left)
		}
	}
	for _, micro := range wildEnds() {
		if left := panicOf(func() { impl.MetreText(micro); impl.MetreText(-micro) }); left != nil {
			t.Errorf("MetreText of %d: panic %v", micro, left)
		}
	}
}

// A line, a script, metres or a store of any length are answered at once.
func TestPromise1LongScripts(t *testing.T) {
	const long = 10000000
	many := impl.Store{List: slices.Repeat([]impl.Named{named("a", storedSets()[0])}, long/10)}
	crowded := storeOf(named("a", impl.Shape{Kind: kindMulti, Points: make([]impl.Point, long)}))
	for _, piece := range []string{" ", "a", "a ", "names\n", "\n", "\xff"} {
		text := strings.Repeat(piece, long/len(piece))
		step := int64(impl.ErrMany)
		if strings.HasSuffix(piece, "\n") {
			step = impl.ErrText
		}
		for _, s := range scriptStores() {
			stepCall.checkCode(t, storeQuestion{store: s, a: text}, step)
			runCall.checkCode(t, storeQuestion{store: s, a: text}, impl.ErrMany)
		}
		if got := impl.WordsOf(text); got.Code != impl.ErrMany || len(got.Words) != 0 {
			t.Errorf("WordsOf of %d bytes of %q: got %d", len(text), piece, got.Code)
		}
		if got := impl.ReadMetres(text); got != (impl.IntResult{Code: impl.ErrText}) {
			t.Errorf("ReadMetres of %d bytes of %q: got %v", len(text), piece, got)
		}
	}
	for _, text := range []string{strings.Repeat("0", long), strings.Repeat("9", long) + ".5", "1." + strings.Repeat("0", long)} {
		if got := impl.ReadMetres(text); got != (impl.IntResult{Code: impl.ErrText}) {
			t.Errorf("ReadMetres of %d bytes: got %v", len(text), got)
		}
	}
	for _, c := range scriptCalls() {
		for _, s := range []impl.Store{many, crowded} {
			if got := c.run(storeQuestion{store: s, a: "names"}); got.code != impl.ErrMany || got.said != "" || len(got.store.List) != 0 {
				t.Errorf("%s of a long store: got %d", c.name, got.code)
			}
		}
	}
}

// Lines that ask of as many points as a store can have end, too.
func TestPromise1SlowScripts(t *testing.T) {
	d := dice(242)
	full := storeWith(fullNames, shapeOf(kindMulti, d.places(mostPoints)...), shapeOf(kindMulti, d.places(mostPoints)...))
	got := impl.RunScript(full, strings.Repeat("within aa 5000000\n", 2)+"dist aa ab\n")
	if got.Code != impl.OK || strings.Count(got.Said, "\n") != 3 {
		t.Errorf("got %v", got)
	}
}

func scriptQuestions() []func() answer {
	var questions []func() answer
	for _, text := range append(pureScripts(), strangeTexts()[:40]...) {
		for _, c := range scriptCalls() {
			for _, s := range scriptStores() {
				questions = append(questions, func() answer { return answer{text: c.run(storeQuestion{store: s, a: text}).text()} })
			}
		}
		questions = append(questions, func() answer {
			r := impl.WordsOf(text)
			return answer{code: r.Code, text: strings.Join(r.Words, "\n")}
		})
	}
	for _, text := range metreWords() {
		questions = append(questions, func() answer {
			r := impl.ReadMetres(text)
			return answer{code: r.Code, value: r.Value}
		})
	}
	for _, micro := range append(wildEnds(), math.MinInt64, -mostTold, -mostTold-1) {
		questions = append(questions, func() answer { return ofText(impl.MetreText(micro)) })
	}
	return questions
}

func TestPromise1ScriptsKeepNothing(t *testing.T) {
	checkKeepsNothing(t, scriptQuestions())
}
