package tests

import (
	"fmt"
	"math/big"
	"regexp"
	"slices"
	"strings"
	"testing"

	"loop.example/g00742/impl"
)

// The numbers of chapter 11, told once more.
const (
	mostScript = 3000
	mostLines  = 40
	metre      = 1000000
)

// The forms of metres, words and lines are told by patterns, which is another way than the program's.
var (
	metresText = regexp.MustCompile(`^[0-9]{1,10}(?:\.[0-9]{1,6})?$`)
	lineText   = regexp.MustCompile(`[^\n]*\n|[^\n]+$`)
)

// forms are how the words of each command look; a shape has one word or more.
var forms = []*regexp.Regexp{
	regexp.MustCompile(`^(put) ([^ ]+) ([^ ].*)$`),
	regexp.MustCompile(`^(del|get|len|area) ([^ ]+)$`),
	regexp.MustCompile(`^(dist) ([^ ]+) ([^ ]+)$`),
	regexp.MustCompile(`^(dwithin) ([^ ]+) ([^ ]+) ([^ ]+)$`),
	regexp.MustCompile(`^(within) ([^ ]+) ([^ ]+)$`),
	regexp.MustCompile(`^(names)$`),
}

// writtenMetres is what MetreText has to answer.
func writtenMetres(micro int64) impl.TextResult {
	if micro < -mostTold || micro > mostTold {
		return impl.TextResult{Code: impl.ErrRange}
	}
	return impl.TextResult{Text: big.NewRat(micro, metre).FloatString(6)}
}

// readMetres is what ReadMetres has to answer.
func readMetres(text string) impl.IntResult {
	if !metresText.MatchString(text) {
		return impl.IntResult{Code: impl.ErrText}
	}
	metres, isNumber := new(big.Rat).SetString(text)
	if !isNumber {
		panic(text)
	}
	micro := metres.Mul(metres, big.NewRat(metre, 1))
	return impl.IntResult{Value: micro.Num().Int64()}
}

// piecesOf are the words of a line of any length.
func piecesOf(line string) []string {
	return slices.DeleteFunc(strings.Split(line, " "), func(word string) bool { return word == "" })
}

// wantStep is what StepScript has to answer.
func wantStep(q storeQuestion) storeAnswer {
	code := faultOfStore(q.store)
	switch {
	case code != impl.OK:
		return storeAnswer{code: code}
	case strings.Count(q.a, "\n") > 0:
		return storeAnswer{code: impl.ErrText}
	case len(q.a) > mostScript:
		return storeAnswer{code: impl.ErrMany}
	}
	line := strings.Join(piecesOf(q.a), " ")
	if line == "" {
		return storeAnswer{store: q.store}
	}
	for _, form := range forms {
		if found := form.FindStringSubmatch(line); found != nil {
			return wantCommand(q.store, found[1], found[2:])
		}
	}
	return storeAnswer{code: impl.ErrText}
}

// wantCommand is what has to come of a command and the words behind it.
func wantCommand(s impl.Store, word string, words []string) storeAnswer {
	var names [2]string
	copy(names[:], words)
	q := storeQuestion{store: s, a: names[0], b: names[1]}
	metres := impl.IntResult{}
	if word == "dwithin" || word == "within" {
		metres = readMetres(words[len(words)-1])
		q.far = metres.Value
	}
	if metres.Code != impl.OK {
		return storeAnswer{code: metres.Code}
	}
	switch word {
	case "put":
		parsed := readShape(words[1])
		if parsed.Code != impl.OK {
			return storeAnswer{code: parsed.Code}
		}
		q.shape = parsed.Shape
		return turned(wantPut(q))
	case "del":
		return turned(wantDrop(q))
	case "get":
		got := wantGet(q)
		return saying(s, got.code, writtenShape(got.shape).Text)
	case "dist":
		return sayingMetres(s, wantDistance(q))
	case "len":
		return sayingMetres(s, wantLength(q))
	case "area":
		got := wantArea(q)
		return saying(s, got.code, fmt.Sprint(got.far.Low, " ", got.far.High))
	case "dwithin":
		return wantWithin(q)
	case "within":
		got := wantScan(q)
		text := "yes"
		for i, list := range got.names {
			text += []string{"", " ; no", " ; unknown"}[i]
			for _, name := range list {
				text += " " + name
			}
		}
		return saying(s, got.code, text)
	}
	text := fmt.Sprint(len(s.List))
	for _, each := range s.List {
		text += " " + each.Name
	}
	return saying(s, impl.OK, text)
}

// turned is what comes of a command that puts or drops.
func turned(got storeAnswer) storeAnswer {
	return saying(got.store, got.code, "ok")
}

// saying is a store with what is said, if there is no code.
func saying(s impl.Store, code int64, said string) storeAnswer {
	if code != impl.OK {
		return storeAnswer{code: code}
	}
	return storeAnswer{store: s, said: said}
}

func sayingMetres(s impl.Store, got storeAnswer) storeAnswer {
	return saying(s, got.code, writtenMetres(got.far.Low).Text+" "+writtenMetres(got.far.High).Text)
}

// wantWithin is what has to come of dwithin, once its metres are read.
func wantWithin(q storeQuestion) storeAnswer {
	lists, code := askedOf(q.store, setKinds, q.a, q.b)
	switch {
	case code != impl.OK:
		return storeAnswer{code: code}
	case q.far > mostFar:
		return storeAnswer{code: impl.ErrRange}
	}
	asked := askOf(rangesBetween(lists[0], lists[1]), q.far)
	return saying(q.store, impl.OK, fmt.Sprint([]string{"yes", "no", "unknown"}[asked.Answer-yes], " ", asked.Bits))
}

// wantRun is what RunScript has to answer.
func wantRun(q storeQuestion) storeAnswer {
	if code := faultOfStore(q.store); code != impl.OK {
		return storeAnswer{code: code}
	}
	lines := lineText.FindAllString(q.a, -1)
	if len(q.a) > mostScript || len(lines) > mostLines {
		return storeAnswer{code: impl.ErrMany}
	}
	answer := storeAnswer{store: q.store}
	for _, line := range lines {
		step := wantStep(storeQuestion{store: answer.store, a: strings.ReplaceAll(line, "\n", "")})
		switch {
		case step.code != impl.OK:
			answer.said += fmt.Sprintf("! %d\n", step.code)
		case step.said == "":
		default:
			answer.said += step.said + "\n"
			answer.store = step.store
		}
	}
	return answer
}

func ofScript(r impl.ScriptResult) storeAnswer {
	return storeAnswer{code: r.Code, store: r.Store, said: r.Said}
}

// stepCall and runCall are the functions of chapter 11 that ask of a store.
var (
	stepCall = storeCall{"StepScript", func(q storeQuestion) storeAnswer { return ofScript(impl.StepScript(q.store, q.a)) }, wantStep}
	runCall  = storeCall{"RunScript", func(q storeQuestion) storeAnswer { return ofScript(impl.RunScript(q.store, q.a)) }, wantRun}
)

// scriptCalls are both of them.
func scriptCalls() []storeCall {
	return []storeCall{stepCall, runCall}
}

// scriptStores are a few stores without a fault: of none, of one set, of sets, lines and rings, and full.
func scriptStores() []impl.Store {
	return []impl.Store{{}, storeOf(named("0point", storedSets()[0])), mixedStore(), storeWith(fullNames[2:7], append(storedSets()[:3], storedWays()[4], storedWays()[0])...)}
}

// longShape is the text of a shape with room for blanks between its pieces, of so many bytes.
func longShape(long int) string {
	return "POINT" + strings.Repeat(" ", long-len("POINT(5 6)")) + "(5 6)"
}

// shapeLines are words of shapes, in many ways to write them, and such as are none, or have a fault.
func shapeLines() []string {
	lines := []string{
		"POINT(1 2)", "POINT (1 2)", "POINT ( 1 2 )", "POINT  (  1.50   -2  )", "MULTIPOINT ( 1 2 , 3 4 )", "LINESTRING(0 0,1 0)", " LINESTRING ( 0 0 , 1 0 ) ", "POLYGON ( ( 0 0 , 0 10 , 10 10 , 10 0 , 0 0 ) )", "POLYGON((0 0,1 0,2 0,0 0))",
		"POINT", "POINT(", "POINT()", "POINT(1)", "POINT(1,2)", "POINT(1 2) POINT(1 2)", "POINT(1 2))", "PO INT(1 2)", "point(1 2)", "POINT(1 2 3)", "POINT(1\t2)", "POINT(- 1 2)", "POINT(1 2) a", "a POINT(1 2)", "POINT(1. 5 2)", "x", "put",
		"POINT(181 0)", "POINT(0 91)", "POINT(1 2,3 4)", "LINESTRING(1 2)", "POLYGON((0 0,1 0,0 0))", "POLYGON((0 0,1 0,2 0,3 0))", "POINT(5 6" + strings.Repeat(" ", 900) + ")", longShape(mostText) + " )",
		"MULTIPOINT(" + strings.Repeat("0 0,", mostPoints-1) + "0 0)", "MULTIPOINT(" + strings.Repeat("0 0,", mostPoints) + "0 0)", "MULTIPOINT(" + strings.Repeat("00 0 , ", 90) + "0 0)",
	}
	// Just as long as the text of a shape may be, and a byte longer.
	inside := strings.Repeat("x ", (mostText-len("POINT( )"))/2)
	return append(lines, "POINT( "+inside+")", "POINT( "+inside+"))")
}

// metreWords are metres, and words that are none.
func metreWords() []string {
	return []string{
		"0", "0.0", "0.000001", "0.000111", "5", "007.25", "111.195080", "111195.080233", "111195.080234", "111195.08", "112000", "5000000", "1000000000", "1000000000.000000", "0999999999.999999",
		"1000000000.000001", "1000000001", "9999999999", "9999999999.999999",
		"10000000000", "00000000000", "1.0000001", "1.", ".5", ".", "-1", "-0", "+1", "x", "1e3", "1,5", "1\t", "１",
	}
}

// linesFor are lines that ask of the names of a store, and of such as it has not, with each command.
func linesFor(s impl.Store) []string {
	names := []string{"b", "no", "A", "abcdefghi", "names"}
	for _, each := range s.List {
		names = append(names, each.Name)
	}
	lines := []string{"", " ", "    ", "names", "  names  ", "name", "namess", "NAMES", "names names", "names b", "put", "del", "get", "dist", "len", "area", "dwithin", "within", "\t", "names\t", "\rnames", "\x00", "\xff", "é", "?", "help"}
	metres, shapes := metreWords(), shapeLines()
	for i, a := range names {
		for _, word := range []string{"put", "del", "get", "dist", "len", "area", "dwithin", "within", "names", "gets", "de", "lent", "dists", "withins", "dwithi", "PUT", "Get", "areas", "put\t"} {
			lines = append(lines, word+" "+a, " "+word+"  "+a+" ", word+a, word+" "+a+" 5", word+" "+a+" POINT(1 2)")
		}
		for j, b := range names {
			lines = append(lines, "dist "+a+" "+b, "dist "+a+" "+b+" 5", "del "+a+" "+b, "get "+a+" "+b, "len "+a+" "+b, "area "+a+" "+b, "within "+a+" "+b, "within "+a+" "+b+" 5")
			lines = append(lines, "dwithin "+a+" "+b, "  dwithin  "+a+" "+b+"  5000 ", "dwithin "+a+" "+b+" 5 5", "dwithin 5 "+a+" "+b)
			for k := range 8 {
				lines = append(lines, "dwithin "+a+" "+b+" "+metres[(i*7+j*3+k*5)%len(metres)])
			}
		}
		for j := range 4 {
			lines = append(lines, "within "+a+" "+metres[(i*4+j)%len(metres)], "put "+a+" "+shapes[(i*4+j)%len(shapes)])
		}
	}
	return lines
}

// The tests' own scripts fit to what the document says of them.
func TestTrueScripts(t *testing.T) {
	for micro, text := range map[int64]string{0: "0.000000", 1: "0.000001", -1: "-0.000001", 1500000: "1.500000", -mostTold: "-9000000000.000000", mostTold - 1: "8999999999.999999"} {
		if got := writtenMetres(micro); got.Text != text {
			t.Errorf("%d: got %v, want %q", micro, got, text)
		}
	}
	for text, micro := range map[string]int64{"0": 0, "007.25": 7250000, "1.5": 1500000, "9999999999.999999": 9999999999999999} {
		if got := readMetres(text); got != (impl.IntResult{Value: micro}) {
			t.Errorf("%q: got %v, want %d", text, got, micro)
		}
	}
	for text, lines := range map[string]int{"": 0, "\n": 1, "\n\n": 2, "a": 1, "a\n": 1, "a\nb": 2, "\na": 2, "a\n\nb\n": 3, " ": 1, "\n ": 2} {
		if got := lineText.FindAllString(text, -1); len(got) != lines || strings.Join(got, "") != text {
			t.Errorf("%q: got %q", text, got)
		}
	}
	asked := storeQuestion{a: "put a POINT ( 0  0 )\nput b POINT(1 0)\nget a\n\ndwithin a b 112000\ndwithin a b 111000.5\nwithin a 5\nnames\nfoo\ndel b\nlen a\nnames"}
	if got := wantRun(asked); got.code != impl.OK || got.said != "ok\nok\nPOINT(0 0)\nyes 48\nno 48\nyes ; no b ; unknown\n2 a b\n! 5\nok\n! 1\n1 a\n" || len(got.store.List) != 1 {
		t.Errorf("got %v", got)
	}
	codes := map[int64]bool{}
	for _, line := range shapeLines() {
		codes[readShape(strings.Join(piecesOf(line), " ")).Code] = true
	}
	if len(codes) != 5 {
		t.Errorf("shapes have only the codes %v", codes)
	}
}
