package tests

import (
	"fmt"
	"math"
	"regexp"
	"slices"
	"strings"
	"testing"

	"loop.example/g00742/impl"
)

func TestPromise12Numbers(t *testing.T) {
	if impl.MaxScript != mostScript || impl.MaxLines != mostLines {
		t.Error("MaxScript, MaxLines")
	}
}

// wordPattern is what a word is, told by a pattern; Go's patterns take any byte that is no rune for one.
var wordPattern = regexp.MustCompile(`[^ ]+`)

func checkWords(t *testing.T, line string, want []string) {
	t.Helper()
	if got := impl.WordsOf(line); got.Code != impl.OK || !slices.Equal(got.Words, want) {
		t.Errorf("WordsOf of %q: got %d and %q, want %q", line, got.Code, got.Words, want)
	}
}

func TestPromise12WordsByHand(t *testing.T) {
	for line, want := range map[string][]string{
		"": nil, " ": nil, "   ": nil, "a": {"a"}, " a": {"a"}, "a ": {"a"}, "  a  ": {"a"}, "a b": {"a", "b"}, "a  b": {"a", "b"}, " a   b  c ": {"a", "b", "c"}, "put a POINT ( 0  0 )": {"put", "a", "POINT", "(", "0", "0", ")"}, "a a a": {"a", "a", "a"}, "ab cde f": {"ab", "cde", "f"},
		"a\tb": {"a\tb"}, "\t": {"\t"}, "a\nb": {"a\nb"}, "\n": {"\n"}, "a \n b": {"a", "\n", "b"}, "a\r\n": {"a\r\n"}, "a\x00b \x00": {"a\x00b", "\x00"}, "a\vb\fc": {"a\vb\fc"}, "a\u00a0b": {"a\u00a0b"}, "a\u2003b\u3000c": {"a\u2003b\u3000c"}, "é ü": {"é", "ü"}, "\xff \xfe\xfd": {"\xff", "\xfe\xfd"}, "\xe2 \x80": {"\xe2", "\x80"}, "\xa0 \x85": {"\xa0", "\x85"},
	} {
		checkWords(t, line, want)
	}
}

// Only the byte 32 stands between two words.
func TestPromise12WordsOfEachByte(t *testing.T) {
	for letter := range 256 {
		between := string([]byte{byte(letter)})
		want := []string{"a" + between + "b"}
		if letter == 32 {
			want = []string{"a", "b"}
		}
		checkWords(t, "a"+between+"b", want)
		checkWords(t, " a"+between+"b  ", want)
		checkWords(t, between+between, wordPattern.FindAllString(between+between, -1))
	}
	for letter := range rune(0x3100) {
		if letter != 32 {
			checkWords(t, "a"+string(letter)+"b", []string{"a" + string(letter) + "b"})
		}
	}
}

func TestPromise12ThrownWords(t *testing.T) {
	d := dice(231)
	pieces := []string{" ", " ", "  ", "a", "put", "(", "\t", "\n", "é", "\xff", "\xc3", "0"}
	for range 3000 {
		line := ""
		for range d.below(12) {
			line += pieces[d.below(len(pieces))]
		}
		want := wordPattern.FindAllString(line, -1)
		checkWords(t, line, want)
		if !slices.Equal(want, piecesOf(line)) {
			t.Errorf("the tests' own words of %q", line)
		}
	}
}

// Lines of MaxScript bytes and of one more: bytes count, neither runes nor words.
func TestPromise12WordBounds(t *testing.T) {
	for _, piece := range []string{"a", " ", "a ", "é", "\n", "\xff", "ab c  "} {
		whole := strings.Repeat(piece, mostScript)
		checkWords(t, whole[:mostScript-1], piecesOf(whole[:mostScript-1]))
		checkWords(t, whole[:mostScript], piecesOf(whole[:mostScript]))
		for _, long := range []string{whole[:mostScript] + "a", whole[:mostScript] + " ", " " + whole[:mostScript], strings.Repeat(whole, 3)} {
			if got := impl.WordsOf(long); got.Code != impl.ErrMany || len(got.Words) != 0 {
				t.Errorf("WordsOf of %d bytes of %q: got %d", len(long), piece, got.Code)
			}
		}
	}
}

func TestPromise12MetresByHand(t *testing.T) {
	for micro, text := range map[int64]string{
		0: "0.000000", 1: "0.000001", -1: "-0.000001", 10: "0.000010", -10: "-0.000010", 100000: "0.100000", 999999: "0.999999", -999999: "-0.999999", 1000000: "1.000000", -1000000: "-1.000000", 1000001: "1.000001", -1000001: "-1.000001", 1500000: "1.500000", 7250000: "7.250000", 10000000: "10.000000",
		111195080233: "111195.080233", 123456789012: "123456.789012", 20015114442036: "20015114.442036", mostFar: "1000000000.000000", mostTold: "9000000000.000000", -mostTold: "-9000000000.000000", mostTold - 1: "8999999999.999999", 1 - mostTold: "-8999999999.999999",
	} {
		if got := impl.MetreText(micro); got != (impl.TextResult{Text: text}) {
			t.Errorf("MetreText of %d: got %v, want %q", micro, got, text)
		}
	}
	for _, far := range []int64{mostTold + 1, mostTold + 2, 10 * mostFar, 1 << 54, 1 << 62, math.MaxInt64} {
		for _, micro := range []int64{far, -far, math.MinInt64} {
			if got := impl.MetreText(micro); got != (impl.TextResult{Code: impl.ErrRange}) {
				t.Errorf("MetreText of %d: got %v", micro, got)
			}
		}
	}
}

// checkMetres checks that metres are written in their one way, and read back from it if they are not below 0.
func checkMetres(t *testing.T, micro int64) {
	t.Helper()
	written := impl.MetreText(micro)
	if want := writtenMetres(micro); written != want {
		t.Errorf("MetreText of %d: got %v, want %v", micro, written, want)
	}
	want := impl.IntResult{Value: micro}
	if micro < 0 || written.Code != impl.OK {
		want = impl.IntResult{Code: impl.ErrText}
	}
	if got := impl.ReadMetres(written.Text); got != want {
		t.Errorf("ReadMetres of %q: got %v, want %v", written.Text, got, want)
	}
}

func TestPromise12MetresReadBack(t *testing.T) {
	d := dice(232)
	for _, about := range []int64{0, 10, 1000, 100000, 1000000, 10000000, 1 << 32, 1000000000000, mostFar, mostTold} {
		for by := int64(-12); by <= 12; by++ {
			checkMetres(t, about+by)
			checkMetres(t, -about-by)
		}
	}
	for range 3000 {
		whole, part := int64(d.below(9000))*metre+int64(d.below(metre)), int64(d.below(metre))
		// Few digits and many, and zeros ahead of the point, behind it and at the end.
		size := (whole*metre + part) / []int64{1, 1000, metre, 100 * metre, 1000 * metre}[d.below(5)]
		zeros := []int64{1, 10, 1000, metre, 100 * metre}[d.below(5)]
		checkMetres(t, size)
		checkMetres(t, size/zeros*zeros)
		checkMetres(t, -size/zeros*zeros)
	}
}

// checkReadMetres compares what is read of any text with the pattern.
func checkReadMetres(t *testing.T, text string) {
	t.Helper()
	if got, want := impl.ReadMetres(text), readMetres(text); got != want {
		t.Errorf("ReadMetres of %q: got %v, want %v", text, got, want)
	}
}

func TestPromise12MetreTextsByHand(t *testing.T) {
	for text, micro := range map[string]int64{
		"0": 0, "00": 0, "0000000000": 0, "0.0": 0, "0.000000": 0, "0000000000.000000": 0, "5": 5000000, "1": 1000000, "1.5": 1500000, "007.25": 7250000, "1.000001": 1000001, "0.000001": 1, "0.1": 100000, "0.01": 10000, "0.100000": 100000, "00.5": 500000, "08": 8000000, "010": 10000000, "12.34": 12340000, "0000000001.000001": 1000001,
		"1000000000": mostFar, "1000000000.000001": mostFar + 1, "1234567890": 1234567890000000, "9000000000": mostTold, "9000000000.000001": mostTold + 1, "9999999999": 9999999999000000, "9999999999.999999": 9999999999999999, "9999999999.9": 9999999999900000,
	} {
		if got := impl.ReadMetres(text); got != (impl.IntResult{Value: micro}) {
			t.Errorf("ReadMetres of %q: got %v, want %d", text, got, micro)
		}
	}
	for _, text := range []string{
		"", ".", "1.", ".5", "0.", ".0", "1..5", "1.5.", "1.5.5", "1,5", "-1", "-0", "-0.5", "-", "+1", "+0", "+", "--1", "1-", "1.-5", "1.+5", "1.0000001", "1.0000000", "0.1234567", "10000000000", "00000000000", "00000000001", "12345678901", "10000000000.5", "99999999999.999999",
		" ", " 1", "1 ", " 1 ", "1 2", "1 .5", "1. 5", "\t1", "1\t", "1\n", "\n1", "1\r\n", "1.5\n", "1\x00", "\x001", "1e3", "1E3", "0x1", "1_0", "0b1", "1a", "a", "x", "inf", "NaN", "1/2", "/", ":", "1:", "1.:", "1./", "1;", "(1)", "1m", "1'", "٣", "１", "²", "1²", "1.²", "−1", "1\u00a0", "\u00a01", "\ufeff1", "\xff", "1\xff", "1\xb2", "\x80", "1.5\xc2", "1٫5",
	} {
		if got := impl.ReadMetres(text); got != (impl.IntResult{Code: impl.ErrText}) {
			t.Errorf("ReadMetres of %q: got %v", text, got)
		}
	}
}

// Each number of digits ahead of the point and behind it.
func TestPromise12MetreDigits(t *testing.T) {
	for n := range 22 {
		for m := range 12 {
			for _, digit := range []string{"0", "1", "9"} {
				whole, part := strings.Repeat(digit, n), strings.Repeat(digit, m)
				for _, text := range []string{whole, whole + "." + part, whole + part, whole + ".", "." + part} {
					checkReadMetres(t, text)
					checkReadMetres(t, "-"+text)
					checkReadMetres(t, " "+text)
				}
			}
		}
	}
}

// All texts of few bytes, and texts with a byte changed at each place.
func TestPromise12ChangedMetres(t *testing.T) {
	for _, text := range []string{"0", "7.5", "007.250", "1234567890.123456", "9999999999", "0.000001"} {
		for _, changed := range changedTexts(text) {
			checkReadMetres(t, changed)
		}
	}
	letters := []byte("019.-+ /:e\n\x00\xff")
	texts := []string{""}
	for from, long := 0, 0; long < 4; long++ {
		to := len(texts)
		for _, text := range texts[from:to] {
			for _, letter := range letters {
				texts = append(texts, text+string([]byte{letter}))
			}
		}
		from = to
	}
	for _, text := range texts {
		checkReadMetres(t, text)
	}
}

// lineCase is a line, and what has to come of it.
type lineCase struct {
	line string
	code int64
	said string
}

func (c lineCase) check(t *testing.T, s impl.Store) {
	t.Helper()
	got := impl.StepScript(s, c.line)
	if got.Code != c.code || got.Said != c.said || c.code != impl.OK && len(got.Store.List) > 0 {
		t.Errorf("StepScript of %q: got %v, want %q and the code %d", c.line, got, c.said, c.code)
	}
}

// checkAsks checks lines that leave a store as it is.
func checkAsks(t *testing.T, s impl.Store, cases []lineCase) {
	t.Helper()
	for _, c := range cases {
		c.check(t, s)
		if got := impl.StepScript(s, c.line); c.code == impl.OK && storeText(got.Store) != storeText(s) {
			t.Errorf("StepScript of %q: the store is %v, want %v", c.line, got.Store, s)
		}
	}
}

// What is said is what is so: each command of the same store, by hand.
func TestPromise12StepsByHand(t *testing.T) {
	checkAsks(t, mixedStore(), []lineCase{
		{"", impl.OK, ""}, {" ", impl.OK, ""}, {"      ", impl.OK, ""},
		{"get 0point", impl.OK, "POINT(0 0)"}, {"get 1multi", impl.OK, "MULTIPOINT(5 0,1 0)"}, {"  get   2line  ", impl.OK, "LINESTRING(0 0,1 0)"}, {"get 3ring", impl.OK, "POLYGON((0 0,0 10,10 10,10 0,0 0))"}, {"get 7west", impl.OK, "MULTIPOINT(-180 0.000000005)"}, {"get 1", impl.ErrNone, ""}, {"get GET", impl.ErrNone, ""},
		{"dist 0point 1multi", impl.OK, "111195.080233 111195.080234"}, {"dist 1multi 0point", impl.OK, "111195.080233 111195.080234"}, {"dist 0point 0point", impl.OK, "0.000000 0.000000"}, {"dist 6east 7west", impl.OK, "0.000000 0.000000"}, {"dist 0point 2line", impl.ErrForm, ""}, {"dist 3ring 0point", impl.ErrForm, ""}, {"dist 0point no", impl.ErrNone, ""}, {"dist 2line no", impl.ErrNone, ""}, {"dist no 2line", impl.ErrNone, ""},
		{"len 2line", impl.OK, "111195.080233 111195.080234"}, {"len 9there", impl.OK, "222390.160466 222390.160468"}, {"len 0point", impl.ErrForm, ""}, {"len 1multi", impl.ErrForm, ""}, {"len no", impl.ErrNone, ""},
		{"area 3ring", impl.OK, "1233204238941 1233204238942"}, {"area 4back", impl.OK, "-1233204238942 -1233204238941"}, {"area 8polar", impl.ErrForm, ""}, {"area 5open", impl.ErrForm, ""}, {"area 0point", impl.ErrForm, ""}, {"area no", impl.ErrNone, ""},
		{"dwithin 0point 1multi 111195.080239", impl.OK, "yes 48"}, {"dwithin 0point 1multi 111195.080234", impl.OK, "yes 72"}, {"dwithin 0point 1multi 111195.080233", impl.OK, "unknown 96"}, {"dwithin 1multi 0point 111195.080232", impl.OK, "no 72"}, {"dwithin 1multi 0point 111195.08", impl.OK, "no 48"}, {"dwithin 0point 1multi 112000", impl.OK, "yes 48"}, {"dwithin 0point 1multi 0", impl.OK, "no 48"}, {"dwithin 6east 7west 0", impl.OK, "yes 48"}, {"dwithin 0point 0point 1000000000", impl.OK, "yes 48"},
		{"within 0point 112000", impl.OK, "yes 1multi ; no 6east 7west ; unknown"}, {"within 6east 0", impl.OK, "yes 7west ; no 0point 1multi ; unknown"}, {"within 0point 111195.080233", impl.OK, "yes ; no 6east 7west ; unknown 1multi"}, {"within 1multi 1000000000", impl.OK, "yes 0point 6east 7west ; no ; unknown"}, {"within 2line 5", impl.ErrForm, ""}, {"within no 5", impl.ErrNone, ""},
		{"names", impl.OK, "10 0point 1multi 2line 3ring 4back 5open 6east 7west 8polar 9there"}, {"   names ", impl.OK, "10 0point 1multi 2line 3ring 4back 5open 6east 7west 8polar 9there"},
	})
	checkAsks(t, impl.Store{}, []lineCase{{"", impl.OK, ""}, {"names", impl.OK, "0"}, {"get a", impl.ErrNone, ""}, {"del a", impl.ErrNone, ""}, {"within a 5", impl.ErrNone, ""}})
	set, line := storedSets()[0], storedWays()[0]
	for _, far := range []string{"0", "0.000001", "1000000000", "1000000000.000000"} {
		// Of a store without other sets there is nothing to tell.
		checkAsks(t, storeOf(named("a", set)), []lineCase{{"within a " + far, impl.OK, "yes ; no ; unknown"}, {"dwithin a a " + far, impl.OK, "yes 48"}})
		checkAsks(t, storeOf(named("a", set), named("b", line)), []lineCase{{"within a " + far, impl.OK, "yes ; no ; unknown"}})
	}
	near := storeOf(named("here", set), named("near", shapeOf(kindPoint, pointAt(1, 0))))
	checkAsks(t, near, []lineCase{{"dwithin here near 0", impl.OK, "no 72"}, {"dwithin near here 0.00011", impl.OK, "no 96"}, {"dwithin here near 0.000111", impl.OK, "unknown 96"}, {"dwithin here near 0.000112", impl.OK, "yes 96"}, {"dwithin here near 000.000161", impl.OK, "yes 72"}, {"dwithin here near 1", impl.OK, "yes 48"}, {"within near 0.000111", impl.OK, "yes ; no ; unknown here"}, {"within here 0.0001", impl.OK, "yes ; no near ; unknown"}})
	checkAsks(t, storeWith(fullNames, set), []lineCase{{"names", impl.OK, "10 0 00 09 9 a a0 aa aaaaaaaa ab z9"}, {"within aa 0", impl.OK, "yes 0 00 09 9 a a0 aaaaaaaa ab z9 ; no ; unknown"}})
}

// Words that are too few, too many, or begin with another command's word, are none of the commands.
func TestPromise12WordsOfCommands(t *testing.T) {
	var cases []lineCase
	s := mixedStore()
	for command, line := range map[string]string{
		"put": "put 0point POINT(1 2)", "del": "del 0point", "get": "get 0point", "dist": "dist 0point 1multi", "len": "len 2line", "area": "area 3ring", "dwithin": "dwithin 0point 1multi 5", "within": "within 0point 5", "names": "names",
	} {
		if got := impl.StepScript(s, line); got.Code != impl.OK {
			t.Errorf("StepScript of %q: got %d", line, got.Code)
		}
		words := strings.Split(line, " ")
		for n := range words {
			if n > 0 {
				cases = append(cases, lineCase{strings.Join(words[:n], " "), impl.ErrText, ""})
			}
			// The command's word is not the first one.
			cases = append(cases, lineCase{strings.Join(append(slices.Clone(words[n:]), words[:n]...), " ") + " x", impl.ErrText, ""})
		}
		for _, more := range []string{" x", " 0point", " 5", " " + command} {
			cases = append(cases, lineCase{line + more, impl.ErrText, ""}, lineCase{line + "  " + more + " ", impl.ErrText, ""})
		}
		rest := strings.TrimPrefix(line, command)
		for _, word := range []string{command + "s", command + "0", command + "\t", "x" + command, strings.ToUpper(command), strings.ToTitle(command[:1]) + command[1:], command[:len(command)-1], command[1:], command + command, "\x00" + command, command + ";", "\ufeff" + command} {
			if word != "within" {
				cases = append(cases, lineCase{word + rest, impl.ErrText, ""})
			}
		}
	}
	// What is left of dwithin has one word too many for within.
	cases = append(cases, lineCase{"within 0point 1multi 5", impl.ErrText, ""}, lineCase{"dwithin 0point 5", impl.ErrText, ""}, lineCase{"dist 0point", impl.ErrText, ""}, lineCase{"foo", impl.ErrText, ""}, lineCase{"# names", impl.ErrText, ""}, lineCase{"ok", impl.ErrText, ""}, lineCase{"POINT(1 2)", impl.ErrText, ""}, lineCase{"0point", impl.ErrText, ""})
	checkAsks(t, s, cases)
}

// All lines, of a few stores, do and say what they have to, told without the program.
func TestPromise12Steps(t *testing.T) {
	codes, said := map[int64]int{}, map[string]bool{}
	for _, s := range scriptStores() {
		for _, line := range linesFor(s) {
			q := storeQuestion{store: s, a: line}
			stepCall.check(t, q)
			got := impl.StepScript(s, line)
			codes[got.Code]++
			said[strings.Split(line+" ", " ")[0]+": "+strings.Split(got.Said+" ", " ")[0]] = true
		}
	}
	for _, code := range []int64{impl.OK, impl.ErrForm, impl.ErrMany, impl.ErrRange, impl.ErrNone, impl.ErrText} {
		if codes[code] < 10 {
			t.Errorf("the code %d is told only %d times", code, codes[code])
		}
	}
	for _, each := range []string{"put: ok", "del: ok", "get: LINESTRING(0", "dist: 0.000000", "dist: 111195.080233", "len: 111195.080233", "area: 1233204238941", "area: -1233204238942", "dwithin: yes", "dwithin: no", "dwithin: unknown", "within: yes", "names: 0", "names: 10"} {
		if !said[each] {
			t.Errorf("it is never said %q", each)
		}
	}
}

// What was put is there, whatever blanks are between the words of the shape, and what was dropped is not.
func TestPromise12PutsAndDrops(t *testing.T) {
	for _, s := range scriptStores() {
		for _, shape := range shapeLines() {
			for _, name := range []string{"new", "0point", "2line", "a", "A", "abcdefghi", "put"} {
				stepCall.check(t, storeQuestion{store: s, a: "put " + name + " " + shape})
				stepCall.check(t, storeQuestion{store: s, a: "  put  " + name + "   " + shape})
			}
		}
	}
}

// The same shape is put, whatever blanks are between its words, and all else is as it was; then it is dropped again.
func TestPromise12ShapesOfManyWords(t *testing.T) {
	shape := shapeOf(kindLine, pointAt(1500000000, -2*degree), pointAt(degree, 0))
	s := scriptStores()[3]
	for _, text := range []string{"LINESTRING(1.5 -2,1 0)", "LINESTRING (1.5 -2,1 0)", "LINESTRING ( 1.5 -2 , 1 0 )", "LINESTRING  (1.5   -2 ,1  0)   ", "   LINESTRING( 1.50 -2.0 ,01 0 )", "LINESTRING (1.5 -2," + strings.Repeat(" ", 2900) + "1 0)", "LINESTRING (1.5" + strings.Repeat(" ", mostText) + "-2,1 0)"} {
		for _, name := range []string{"new", "0", "zz", s.List[0].Name, s.List[4].Name} {
			put := impl.StepScript(s, "put "+name+" "+text)
			if put.Code != impl.OK || put.Said != "ok" || !isLike(put.Store, name, shape) {
				t.Errorf("put %q as %q: got %v", text, name, put)
			}
			checkRest(t, "put "+name, s, put.Store, name)
			got := impl.StepScript(put.Store, "get "+name)
			if got.Code != impl.OK || got.Said != "LINESTRING(1.5 -2,1 0)" {
				t.Errorf("get %q: got %v", name, got)
			}
			dropped := impl.StepScript(put.Store, " del  "+name)
			if dropped.Code != impl.OK || dropped.Said != "ok" || impl.GetShape(dropped.Store, name).Code != impl.ErrNone {
				t.Errorf("del %q: got %v", name, dropped)
			}
			checkRest(t, "dropped "+name, s, dropped.Store, name)
		}
	}
	for _, text := range []string{"LINE STRING(1.5 -2,1 0)", "LINESTRING(1 .5 -2,1 0)", "LINESTRING(1.5 - 2,1 0)", "LINESTRING(1.5,1 0)", "LINESTRING(1.5 -2,1 0) )", "LINESTRING(1.5 -2,1 0", "( 1.5 -2 , 1 0 )"} {
		lineCase{"put new " + text, impl.ErrText, ""}.check(t, s)
	}
}

// The codes are asked in their order: each line has this fault and all that are asked later.
func TestPromise12StepCodes(t *testing.T) {
	long := strings.Repeat("x", mostScript)
	full := mixedStore()
	checkAsks(t, full, []lineCase{
		{long + "\n", impl.ErrText, ""}, {"\n" + strings.Repeat(" ", mostScript), impl.ErrText, ""}, {"\n", impl.ErrText, ""}, {"names\n", impl.ErrText, ""}, {"\nnames", impl.ErrText, ""}, {"names \n", impl.ErrText, ""}, {"get\n0point", impl.ErrText, ""}, {"names\nnames", impl.ErrText, ""}, {"put a POINT(0\n0)", impl.ErrText, ""},
		{long + "x", impl.ErrMany, ""}, {"names" + strings.Repeat(" ", mostScript-4), impl.ErrMany, ""}, {strings.Repeat(" ", mostScript+1), impl.ErrMany, ""}, {long, impl.ErrText, ""}, {"names" + strings.Repeat(" ", mostScript-5), impl.OK, impl.StepScript(full, "names").Said}, {strings.Repeat(" ", mostScript), impl.OK, ""},
		// Of put the shape's code is first, then that of the name, then that there is no room.
		{"put A POINT( " + strings.Repeat("x ", mostText/2) + ")", impl.ErrMany, ""}, {"put A " + long[:mostText+1], impl.ErrMany, ""}, {"put A " + long[:mostText], impl.ErrText, ""}, {"put " + long[:mostText+1], impl.ErrText, ""}, {"put A POINT(", impl.ErrText, ""}, {"put A POINT(0 91)", impl.ErrRange, ""}, {"put A POLYGON((0 0,1 0,2 0,3 0))", impl.ErrForm, ""}, {"put A LINESTRING(0 0)", impl.ErrMany, ""}, {"put A POINT(0 0)", impl.ErrText, ""}, {"put abcdefghi POINT(0 0)", impl.ErrText, ""}, {"put new POINT(0 91)", impl.ErrRange, ""}, {"put new POINT(0 0)", impl.ErrFull, ""},
		{"del no", impl.ErrNone, ""}, {"del A", impl.ErrNone, ""}, {"get no", impl.ErrNone, ""}, {"get A", impl.ErrNone, ""},
		// Of dwithin the code of the metres is first, then that of each name, then that it is no set, then that of far.
		{"dwithin no no x", impl.ErrText, ""}, {"dwithin 2line 3ring -1", impl.ErrText, ""}, {"dwithin 0point 1multi 10000000000", impl.ErrText, ""}, {"dwithin 0point 1multi 1.", impl.ErrText, ""},
		{"dwithin no 2line 9999999999", impl.ErrNone, ""}, {"dwithin 2line no 9999999999", impl.ErrNone, ""}, {"dwithin no no 5", impl.ErrNone, ""}, {"dwithin 0point no 5", impl.ErrNone, ""},
		{"dwithin 2line 0point 9999999999", impl.ErrForm, ""}, {"dwithin 0point 3ring 9999999999", impl.ErrForm, ""}, {"dwithin 2line 2line 5", impl.ErrForm, ""},
		{"dwithin 0point 1multi 9999999999.999999", impl.ErrRange, ""}, {"dwithin 0point 1multi 1000000000.000001", impl.ErrRange, ""}, {"dwithin 0point 0point 1000000001", impl.ErrRange, ""}, {"dwithin 0point 1multi 1000000000", impl.OK, "yes 48"},
		{"within no x", impl.ErrText, ""}, {"within 2line +5", impl.ErrText, ""}, {"within no 9999999999", impl.ErrNone, ""}, {"within 2line 9999999999", impl.ErrForm, ""}, {"within 0point 9999999999", impl.ErrRange, ""}, {"within 0point 1000000000.000001", impl.ErrRange, ""},
	})
	checkAsks(t, storeOf(named("a", storedSets()[0])), []lineCase{{"within a 1000000000.000001", impl.ErrRange, ""}, {"dwithin a a 1000000000.000001", impl.ErrRange, ""}, {"within a 1000000000", impl.OK, "yes ; no ; unknown"}})
	// A ring of which no area can be told.
	for _, each := range storedWays()[4:] {
		stepCall.check(t, storeQuestion{store: storeOf(named("r", each)), a: "area r"})
	}
}

// The fault of a store is told first, and nothing else, whatever the line or the script is.
func TestPromise12FaultsOfStores(t *testing.T) {
	texts := []string{"", " ", "names", "\n", "x", "get a", "put a POINT(0 0)", strings.Repeat("x", mostScript+1), strings.Repeat("\n", mostLines+1)}
	for _, f := range faultyStores() {
		for _, text := range texts {
			for _, c := range scriptCalls() {
				c.checkCode(t, storeQuestion{store: f.store, a: text}, f.code)
			}
		}
	}
}

// runCase is a script, and what is said of it and is in the store then.
type runCase struct {
	text  string
	said  string
	names []string
}

func (c runCase) check(t *testing.T, s impl.Store) {
	t.Helper()
	got := impl.RunScript(s, c.text)
	var names []string
	for _, each := range got.Store.List {
		names = append(names, each.Name)
	}
	if got.Code != impl.OK || got.Said != c.said || !slices.Equal(names, c.names) {
		t.Errorf("RunScript of %q: got %v, want %q and %q", c.text, got, c.said, c.names)
	}
}

func TestPromise12RunsByHand(t *testing.T) {
	for _, c := range []runCase{
		{"", "", nil}, {"\n", "", nil}, {"\n\n\n", "", nil}, {" ", "", nil}, {"  \n \n   ", "", nil},
		{"names", "0\n", nil}, {"names\n", "0\n", nil}, {"\nnames\n\n", "0\n", nil}, {"names\nnames", "0\n0\n", nil}, {"names\r\nnames\n", "! 5\n0\n", nil}, {"\r\n", "! 5\n", nil}, {"names names", "! 5\n", nil},
		{"put a POINT(0 0)", "ok\n", []string{"a"}}, {"put b POINT(0 0)\nput a POINT(0 0)\nnames\ndel b\nnames\n", "ok\nok\n2 a b\nok\n1 a\n", []string{"a"}}, {"put a POINT(0 0)\ndel a\nget a\nnames", "ok\nok\n! 4\n0\n", nil},
		// A line with a code leaves the store as it was, and those behind it are done all the same.
		{"put a POINT(0 0)\nput a POINT(0 91)\nget a\nput a POINT(x)\nget a\nput A POINT(1 1)\nnames\ndel b\nfoo\nnames", "ok\n! 3\nPOINT(0 0)\n! 5\nPOINT(0 0)\n! 5\n1 a\n! 4\n! 5\n1 a\n", []string{"a"}},
		{"x", "! 5\n", nil}, {"x\n", "! 5\n", nil}, {"x\n\nx", "! 5\n! 5\n", nil}, {"get a\nput a MULTIPOINT ( 1 2 , 3 4 )\nget a\nput a POINT(5 6)\nget a", "! 4\nok\nMULTIPOINT(1 2,3 4)\nok\nPOINT(5 6)\n", []string{"a"}},
		{"put a LINESTRING(0 0)\nput a POLYGON((0 0,1 0,2 0,3 0))\nput r POLYGON((0 0,0 10,10 10,10 0,0 0))\narea r\nlen r\ndist r r\nwithin r 5", "! 2\n! 1\nok\n1233204238941 1233204238942\n" + saidLength(boxOfTen()) + "\n! 1\n! 1\n", []string{"r"}},
	} {
		c.check(t, impl.Store{})
	}
	s := storeWith([]string{"a", "b"}, storedSets()[0])
	for _, c := range []runCase{
		{"", "", []string{"a", "b"}}, {"\n \n", "", []string{"a", "b"}}, {"names", "2 a b\n", []string{"a", "b"}}, {"del a", "ok\n", []string{"b"}}, {"del a\ndel b\ndel b", "ok\nok\n! 4\n", nil}, {"dwithin a b 0\ndist a b\nwithin b 1", "yes 48\n0.000000 0.000000\nyes a ; no ; unknown\n", []string{"a", "b"}}, {"foo\nput ab POINT(1 1)\nbar", "! 5\nok\n! 5\n", []string{"a", "ab", "b"}},
	} {
		c.check(t, s)
	}
}

// boxOfTen is the ring of a box of ten degrees.
func boxOfTen() []impl.Point {
	return storedWays()[4].Points
}

// saidLength is what len says of points.
func saidLength(list []impl.Point) string {
	length := steps(96).length(list)
	return writtenMetres(length.Low).Text + " " + writtenMetres(length.High).Text
}

// A store is filled up by a script: what has no room is not put, and what was there still can be.
func TestPromise12FullRuns(t *testing.T) {
	text, want := "", ""
	for i, name := range append(slices.Clone(fullNames), "b", "aaa", "a", "z9") {
		text += fmt.Sprintf("put %s POINT(%d 0)\n", name, i)
		want += "ok\n"
	}
	want = strings.Repeat("ok\n", mostNames) + "! 7\n! 7\nok\nok\n10 0 00 09 9 a a0 aa aaaaaaaa ab z9\nPOINT(12 0)\n"
	runCase{text + "names\nget a", want, fullNames}.check(t, impl.Store{})
}

func checkRunCode(t *testing.T, text string, code int64) {
	t.Helper()
	for _, s := range []impl.Store{{}, mixedStore()} {
		got := impl.RunScript(s, text)
		if got.Code != code || code != impl.OK && (got.Said != "" || len(got.Store.List) > 0) || code == impl.OK && len(got.Store.List) != len(s.List) {
			t.Errorf("RunScript of %d bytes: got %v, want %d", len(text), got, code)
		}
	}
}

// Scripts of MaxScript bytes and MaxLines lines, and of one more; a line feed at the end begins no line.
func TestPromise12RunBounds(t *testing.T) {
	for _, line := range []string{"", " ", "x", "names", "get 0point"} {
		whole := strings.Repeat(line+"\n", mostLines)
		checkRunCode(t, whole, impl.OK)
		checkRunCode(t, whole[:len(whole)-1], impl.OK)
		checkRunCode(t, whole+"\n", impl.ErrMany)
		checkRunCode(t, whole+" ", impl.ErrMany)
		checkRunCode(t, whole+"x", impl.ErrMany)
		checkRunCode(t, "\n"+whole, impl.ErrMany)
		checkRunCode(t, whole+line+"\n", impl.ErrMany)
		checkRunCode(t, whole+whole, impl.ErrMany)
		checkRunCode(t, strings.Repeat(line+"\n", mostLines-1)+"names", impl.OK)
		if got, want := impl.RunScript(mixedStore(), whole).Said, strings.Repeat(impl.RunScript(mixedStore(), line).Said, mostLines); got != want {
			t.Errorf("RunScript of %q: got %q, want %q", whole, got, want)
		}
	}
	for _, piece := range []string{" ", "x", "é", "\xff", "names ", strings.Repeat(" ", 99) + "\n"} {
		whole := strings.Repeat(piece, mostScript)[:mostScript]
		checkRunCode(t, whole, impl.OK)
		checkRunCode(t, whole[1:], impl.OK)
		checkRunCode(t, whole+" ", impl.ErrMany)
		checkRunCode(t, "x"+whole, impl.ErrMany)
		checkRunCode(t, whole+"\n", impl.ErrMany)
	}
	// A command with blanks behind it, so that the script has just as many bytes as it may have.
	for _, more := range []int{-1, 0} {
		runCase{"names" + strings.Repeat(" ", mostScript-6+more) + "\n", "0\n", nil}.check(t, impl.Store{})
	}
}

// script throws a script of n lines of these.
func (d *dice) script(lines []string, n int) string {
	text := ""
	for range n {
		line := lines[d.below(len(lines))]
		if len(line) < 80 && len(text)+len(line) < mostScript {
			text += line + "\n"
		}
	}
	if d.below(2) == 0 {
		return strings.TrimSuffix(text, "\n")
	}
	return text
}

// A script is done line by line, and each line does what StepScript does with the store as it is by then.
func TestPromise12LineByLine(t *testing.T) {
	d := dice(233)
	coded, done := 0, 0
	for i, s := range scriptStores() {
		lines := linesFor(s)
		fine := slices.DeleteFunc(slices.Clone(lines), func(line string) bool { return impl.StepScript(s, line).Said == "" })
		lines = slices.Concat(lines, slices.Repeat(fine, len(lines)/len(fine)))
		for range 50 {
			text := d.script(lines, d.below(mostLines+1))
			q := storeQuestion{store: s, a: text}
			runCall.check(t, q)
			step, said := s, ""
			for _, line := range strings.Split(strings.TrimSuffix(text, "\n"), "\n") {
				got := impl.StepScript(step, line)
				if got.Code != impl.OK {
					said += fmt.Sprintf("! %d\n", got.Code)
					coded++
					continue
				}
				if got.Said != "" {
					said += got.Said + "\n"
					done++
				}
				step = got.Store
			}
			if got := impl.RunScript(s, text); got.Said != said || storeText(got.Store) != storeText(step) {
				t.Errorf("RunScript %d of %q: got %v, line by line %q and %v", i, text, got, said, step)
			}
		}
	}
	if coded < 1000 || done < 1000 {
		t.Errorf("%d lines are done, and %d have a code", done, coded)
	}
}

// walkLines are lines that put, drop and ask, of more names than a store can have.
func walkLines() []string {
	lines := []string{"", "  ", "names", "names", "foo", "put b POINT(0 91)", "put b2 POINT("}
	texts := []string{"POINT(0 0)", "POINT ( 1 0 )", "MULTIPOINT(0 0,5 5)", "LINESTRING(0 0,1 0)", "POLYGON ((0 0,0 10,10 10,10 0,0 0))"}
	names := append(slices.Clone(fullNames), "b", "c", "zz")
	for i, name := range names {
		for _, text := range texts {
			lines = append(lines, "put "+name+" "+text)
		}
		other := names[(i*5+2)%len(names)]
		lines = append(lines, "del "+name, "get "+name, "len "+name, "area "+name, "dist "+name+" "+other, "dwithin "+name+" "+other+" 111195.080233", "dwithin "+name+" "+other+" 111000.5", "within "+name+" 112000")
	}
	return lines
}

// What one script leaves is what the next one goes on with, and cut anywhere a script does the same.
func TestPromise12Walks(t *testing.T) {
	d := dice(234)
	lines := walkLines()
	told := map[string]bool{}
	for range 10 {
		var s impl.Store
		for range 5 {
			text := d.script(lines, mostLines)
			q := storeQuestion{store: s, a: text}
			runCall.check(t, q)
			whole := impl.RunScript(s, text)
			cut := strings.Index(text[len(text)/2:], "\n") + len(text)/2 + 1
			first := impl.RunScript(s, text[:cut])
			second := impl.RunScript(first.Store, text[cut:])
			if first.Code != impl.OK || second.Code != impl.OK || first.Said+second.Said != whole.Said || storeText(second.Store) != storeText(whole.Store) {
				t.Errorf("%q, cut at %d: got %v and %v, want %v", text, cut, first, second, whole)
			}
			for _, line := range strings.Split(whole.Said, "\n") {
				told[strings.Split(line, "(")[0]] = true
			}
			s = whole.Store
		}
	}
	for _, said := range []string{"ok", "! 1", "! 3", "! 4", "! 5", "! 7", "POINT", "MULTIPOINT", "LINESTRING", "POLYGON", "yes 48", "no 48", "unknown 96", "111195.080233 111195.080234", "1233204238941 1233204238942"} {
		if !told[said] {
			t.Errorf("it is never said %q", said)
		}
	}
}

func TestPromise12Examples(t *testing.T) {
	if got := impl.MetreText(1500000); got.Text != "1.500000" {
		t.Errorf("got %v", got)
	}
}
