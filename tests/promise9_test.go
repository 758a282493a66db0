package tests

import (
	"math"
	"slices"
	"strings"
	"testing"

	"loop.example/g00742/impl"
)

func TestPromise9Numbers(t *testing.T) {
	if impl.KindPoint != kindPoint || impl.KindMulti != kindMulti || impl.KindLine != kindLine || impl.KindRing != kindRing || impl.MaxText != mostText {
		t.Error("KindPoint, KindMulti, KindLine, KindRing, MaxText")
	}
}

func TestPromise9CoordsByHand(t *testing.T) {
	for _, c := range []struct {
		nano int64
		text string
	}{
		{0, "0"}, {1, "0.000000001"}, {-1, "-0.000000001"}, {10, "0.00000001"}, {-10, "-0.00000001"}, {100000000, "0.1"}, {-100000000, "-0.1"}, {100000001, "0.100000001"}, {10000000, "0.01"}, {999999999, "0.999999999"},
		{degree, "1"}, {-degree, "-1"}, {degree + 1, "1.000000001"}, {degree - 1, "0.999999999"}, {1500000000, "1.5"}, {-1500000000, "-1.5"}, {10 * degree, "10"}, {-100 * degree, "-100"}, {12000000001, "12.000000001"}, {7120300000, "7.1203"},
		{halfLon, "180"}, {-halfLon, "-180"}, {100000 * degree, "100000"}, {999999 * degree, "999999"}, {123456123456789, "123456.123456789"}, {mostCoord, "999999.999999999"}, {-mostCoord, "-999999.999999999"}, {mostCoord - 9, "999999.99999999"},
	} {
		if got := impl.CoordText(c.nano); got != (impl.TextResult{Text: c.text}) {
			t.Errorf("CoordText of %d: got %v, want %q", c.nano, got, c.text)
		}
		if got := impl.ReadCoord(c.text); got != (impl.IntResult{Value: c.nano}) {
			t.Errorf("ReadCoord of %q: got %v, want %d", c.text, got, c.nano)
		}
	}
}

func TestPromise9CoordBounds(t *testing.T) {
	for _, far := range []int64{mostCoord + 1, mostCoord + 2, 2 * mostCoord, 1 << 50, 1 << 62, math.MaxInt64} {
		for _, nano := range []int64{far, -far, math.MinInt64} {
			if got := impl.CoordText(nano); got != (impl.TextResult{Code: impl.ErrRange}) {
				t.Errorf("CoordText of %d: got %v", nano, got)
			}
		}
	}
	for _, nano := range []int64{mostCoord, mostCoord - 1, -mostCoord, 1 - mostCoord} {
		if got := impl.CoordText(nano); got.Code != impl.OK {
			t.Errorf("CoordText of %d: got %v", nano, got)
		}
	}
}

// checkCoord checks that a coordinate is written in the one way, and read back from it and from each other way to write it.
func checkCoord(t *testing.T, nano int64) {
	t.Helper()
	written := impl.CoordText(nano)
	if want := writtenCoord(nano); written != want {
		t.Errorf("CoordText of %d: got %v, want %v", nano, written, want)
	}
	for _, text := range append(spelledCoords(nano), written.Text) {
		got := impl.ReadCoord(text)
		if got != (impl.IntResult{Value: nano}) {
			t.Errorf("ReadCoord of %q: got %v, want %d", text, got, nano)
		}
		if again := impl.CoordText(got.Value); again != written {
			t.Errorf("CoordText of what is read of %q: got %v, want %v", text, again, written)
		}
	}
}

func TestPromise9CoordsReadBack(t *testing.T) {
	d := dice(151)
	for _, nano := range edgeCoords() {
		checkCoord(t, nano)
	}
	for range 1500 {
		size := int64(d.below(1000000))*degree + int64(d.below(degree))
		// Zeros at the end, and no whole degrees.
		zeros := []int64{1, 10, 1000, 1000000, 100000000, degree}[d.below(6)]
		checkCoord(t, size/zeros*zeros)
		checkCoord(t, -(size % degree / zeros * zeros))
	}
}

// checkReadCoord compares what is read of any text with the pattern.
func checkReadCoord(t *testing.T, text string) {
	t.Helper()
	if got, want := impl.ReadCoord(text), readCoord(text); got != want {
		t.Errorf("ReadCoord of %q: got %v, want %v", text, got, want)
	}
}

func TestPromise9CoordTextsByHand(t *testing.T) {
	for text, nano := range map[string]int64{
		"-0": 0, "00": 0, "000000": 0, "-000000": 0, "0.0": 0, "-0.000000000": 0, "007": 7 * degree, "-007": -7 * degree, "000001": degree, "1.0": degree, "1.000000000": degree, "1.50": 1500000000, "-1.50": -1500000000,
		"5": 5 * degree, "123456": 123456 * degree, "999999": 999999 * degree, "0.5": 500000000, "00.5": 500000000, "0.05": 50000000, "1.000000010": degree + 10, "08": 8 * degree, "010": 10 * degree, "0.123456789": 123456789,
	} {
		if got := impl.ReadCoord(text); got != (impl.IntResult{Value: nano}) {
			t.Errorf("ReadCoord of %q: got %v, want %d", text, got, nano)
		}
	}
	for _, text := range []string{
		"", "-", "--", "--1", "-+1", "+-1", "+1", "+", "1-", "1-1", "5.-1", "-.5", ".5", "5.", "-5.", ".", "-.", "1..5", "1.5.5", "1.5.", "1,5", "1000000", "0000001", "1234567", "-1000000", "1000000.5", "1.0000000001", "1.0000000000", "0.1234567890", "-1.1234567891",
		" ", " 1", "1 ", " 1 ", "- 1", "1 2", "1 .5", "1. 5", "\t1", "1\n", "1\r\n", "1\x00", "\x001", "1e3", "1E3", "0x1", "1_0", "0b1", "1a", "a", "inf", "NaN", "1/2", "/", ":", "1:", "1.:", "1./", "(1)", "1,",
		"٣", "１", "²", "1²", "1.²", "−1", "1\u00a0", "\u00a01", "\ufeff1", "\xff", "1\xff", "1\xb2", "\x80", "1.5\xc2", "1٫5",
	} {
		if got := impl.ReadCoord(text); got != (impl.IntResult{Code: impl.ErrText}) {
			t.Errorf("ReadCoord of %q: got %v", text, got)
		}
	}
}

// Each number of digits ahead of the point and behind it.
func TestPromise9CoordDigits(t *testing.T) {
	for n := range 12 {
		for m := range 14 {
			for _, digit := range []string{"0", "1", "9"} {
				whole, part := strings.Repeat(digit, n), strings.Repeat(digit, m)
				for _, text := range []string{whole, whole + "." + part, whole + part, whole + ".", "." + part} {
					checkReadCoord(t, text)
					checkReadCoord(t, "-"+text)
				}
			}
		}
	}
}

// strangeBytes are those of the forms and of others near to them, and some that are not ASCII.
var strangeBytes = []string{
	" ", "  ", "(", ")", ",", "-", ".", "+", "0", "1", "9", "00", "/", ":", "P", "p", "S", "G", "\t", "\n", "\r", "\x00", "\v", ";", "[", "'", "*", "&", "e", "_", "\x80", "\xa0", "\xff", "\u00a0", "\u2003", "٣", "，", "（",
}

// changedTexts are a text with a byte less, or one in place of another, or something put in, at each place, and its beginnings and ends.
func changedTexts(text string) []string {
	list := []string{text, text + text, text + " " + text, strings.ToLower(text), strings.ToTitle(text)}
	for i := range len(text) + 1 {
		list = append(list, text[:i], text[i:])
		for _, strange := range strangeBytes {
			list = append(list, text[:i]+strange+text[i:])
		}
	}
	for i := range text {
		list = append(list, text[:i]+text[i+1:], text[:i]+text[i:i+1]+text[i:], text[:i]+strings.ToLower(text[i:i+1])+text[i+1:])
		for _, strange := range strangeBytes {
			list = append(list, text[:i]+strange+text[i+1:])
		}
		if i > 0 {
			list = append(list, text[:i-1]+text[i:i+1]+text[i-1:i]+text[i+1:])
		}
	}
	return list
}

func TestPromise9ChangedCoords(t *testing.T) {
	for _, text := range []string{"0", "-0", "7", "-1.5", "123456", "000000", "-123456.123456789", "999999.999999999", "0.000000001", "1.100000000", "-12.30"} {
		for _, changed := range changedTexts(text) {
			checkReadCoord(t, changed)
		}
	}
}

// Texts of a few bytes, all of them.
func TestPromise9ShortCoords(t *testing.T) {
	texts := []string{""}
	for range 6 {
		var longer []string
		for _, text := range texts {
			checkReadCoord(t, text)
			for _, next := range []string{"-", ".", "0", "7", " "} {
				longer = append(longer, text+next)
			}
		}
		texts = longer
	}
}

// checkShapeFault checks the code of a shape, and what is printed of it.
func checkShapeFault(t *testing.T, s impl.Shape) {
	t.Helper()
	if got, want := impl.ShapeFault(s), faultOfShape(s); got != want {
		t.Errorf("ShapeFault of %v: got %d, want %d", s, got, want)
	}
	if got, want := impl.PrintShape(s), writtenShape(s); got != want {
		t.Errorf("PrintShape of %v: got %v, want %v", s, got, want)
	}
}

// Each kind, and what is none, with each number of points, with faults and without.
func TestPromise9ShapeFaults(t *testing.T) {
	d := dice(152)
	for _, kind := range append(noKinds(), kindPoint, kindMulti, kindLine, kindRing) {
		for n := range mostPoints + 4 {
			s := d.shape(kind, n)
			checkShapeFault(t, s)
			for i, wrong := range faultyPoints() {
				if n > 0 {
					points := slices.Clone(s.Points)
					points[i%n] = wrong
					checkShapeFault(t, impl.Shape{Kind: kind, Points: points})
				}
			}
			if n > 1 {
				open := slices.Clone(s.Points)
				open[n-1] = pointAt(open[0].Lon, open[0].Lat/2+1)
				checkShapeFault(t, impl.Shape{Kind: kind, Points: open})
			}
		}
	}
}

func TestPromise9ShapeFaultsByHand(t *testing.T) {
	a, b, off := pointAt(0, 0), pointAt(degree, 0), pointAt(halfLon+1, 0)
	seam, back := pointAt(halfLon, 5), pointAt(-halfLon, 5)
	pole, same := pointAt(1, poleLat), pointAt(2, poleLat)
	for _, c := range []struct {
		kind   int64
		points []impl.Point
		code   int64
	}{
		{kindPoint, []impl.Point{a}, impl.OK}, {kindPoint, nil, impl.ErrMany}, {kindPoint, []impl.Point{a, a}, impl.ErrMany}, {kindPoint, alike(12, a), impl.ErrMany},
		{kindMulti, []impl.Point{a}, impl.OK}, {kindMulti, alike(12, a), impl.OK}, {kindMulti, nil, impl.ErrMany}, {kindMulti, []impl.Point{}, impl.ErrMany}, {kindMulti, alike(13, a), impl.ErrMany},
		{kindLine, []impl.Point{a, a}, impl.OK}, {kindLine, alike(12, a), impl.OK}, {kindLine, []impl.Point{a}, impl.ErrMany}, {kindLine, nil, impl.ErrMany}, {kindLine, alike(13, a), impl.ErrMany},
		{kindRing, alike(4, a), impl.OK}, {kindRing, alike(12, a), impl.OK}, {kindRing, alike(3, a), impl.ErrMany}, {kindRing, nil, impl.ErrMany}, {kindRing, alike(13, a), impl.ErrMany},
		{kindRing, []impl.Point{a, b, b, a}, impl.OK}, {kindRing, []impl.Point{a, b, a, b}, impl.ErrForm}, {kindRing, append(alike(11, a), b), impl.ErrForm}, {kindRing, []impl.Point{a, b, b}, impl.ErrMany},
		// The same place is not the same point.
		{kindRing, []impl.Point{seam, a, b, back}, impl.ErrForm}, {kindRing, []impl.Point{seam, a, b, seam}, impl.OK}, {kindRing, []impl.Point{pole, a, b, same}, impl.ErrForm}, {kindRing, []impl.Point{a, b, b, pointAt(0, 1)}, impl.ErrForm}, {kindRing, []impl.Point{a, b, b, pointAt(1, 0)}, impl.ErrForm},
		// The kind is asked first, then the points, then how many they have to be, then the ring.
		{0, nil, impl.ErrForm}, {5, nil, impl.ErrForm}, {0, []impl.Point{a}, impl.ErrForm}, {5, alike(4, a), impl.ErrForm}, {0, alike(13, off), impl.ErrForm}, {5, []impl.Point{off}, impl.ErrForm}, {-1, []impl.Point{a}, impl.ErrForm},
		{kindPoint, []impl.Point{off}, impl.ErrRange}, {kindPoint, []impl.Point{a, off}, impl.ErrRange}, {kindPoint, alike(13, off), impl.ErrMany}, {kindLine, []impl.Point{off}, impl.ErrRange}, {kindRing, []impl.Point{a, off, b}, impl.ErrRange}, {kindRing, []impl.Point{off, b, a, a}, impl.ErrRange}, {kindRing, []impl.Point{off}, impl.ErrRange},
	} {
		s := impl.Shape{Kind: c.kind, Points: c.points}
		if got := impl.ShapeFault(s); got != c.code {
			t.Errorf("ShapeFault of %v: got %d, want %d", s, got, c.code)
		}
		if got := impl.PrintShape(s); got.Code != c.code || (got.Text == "") != (c.code != impl.OK) {
			t.Errorf("PrintShape of %v: got %v, want the code %d", s, got, c.code)
		}
	}
}

func TestPromise9PrintsByHand(t *testing.T) {
	a, b, c := pointAt(degree, 2*degree), pointAt(-1500000000, 1), pointAt(halfLon, -poleLat)
	for _, each := range []struct {
		kind   int64
		points []impl.Point
		text   string
	}{
		{kindPoint, []impl.Point{a}, "POINT(1 2)"}, {kindPoint, []impl.Point{b}, "POINT(-1.5 0.000000001)"}, {kindPoint, []impl.Point{{}}, "POINT(0 0)"},
		{kindMulti, []impl.Point{a}, "MULTIPOINT(1 2)"}, {kindMulti, []impl.Point{a, b, c}, "MULTIPOINT(1 2,-1.5 0.000000001,180 -90)"},
		{kindLine, []impl.Point{a, c}, "LINESTRING(1 2,180 -90)"}, {kindLine, []impl.Point{c, a}, "LINESTRING(180 -90,1 2)"}, {kindRing, []impl.Point{a, b, c, a}, "POLYGON((1 2,-1.5 0.000000001,180 -90,1 2))"},
	} {
		s := impl.Shape{Kind: each.kind, Points: each.points}
		if got := impl.PrintShape(s); got != (impl.TextResult{Text: each.text}) {
			t.Errorf("PrintShape of %v: got %v, want %q", s, got, each.text)
		}
		checkParse(t, each.text, impl.ShapeResult{Shape: s})
	}
}

// checkParse checks what is read of a text.
func checkParse(t *testing.T, text string, want impl.ShapeResult) {
	t.Helper()
	got := impl.ParseShape(text)
	if got.Code != want.Code || got.Shape.Kind != want.Shape.Kind || !slices.Equal(got.Shape.Points, want.Shape.Points) {
		t.Errorf("ParseShape of %q: got %v, want %v", text, got, want)
	}
}

func checkParseCode(t *testing.T, text string, code int64) {
	t.Helper()
	checkParse(t, text, impl.ShapeResult{Code: code})
}

// checkReadBack checks that a shape is printed in the one way and read back from it, and from each other way to write it.
func checkReadBack(t *testing.T, s impl.Shape, ways ...spelling) {
	t.Helper()
	checkShapeFault(t, s)
	printed := impl.PrintShape(s)
	texts := []string{printed.Text}
	for _, way := range ways {
		texts = append(texts, way.spell(s))
	}
	for _, text := range texts {
		if len(text) > mostText {
			checkParseCode(t, text, impl.ErrMany)
			continue
		}
		checkParse(t, text, impl.ShapeResult{Shape: s})
		if again := impl.PrintShape(impl.ParseShape(text).Shape); again != printed {
			t.Errorf("PrintShape of what is read of %q: got %v, want %v", text, again, printed)
		}
	}
}

func TestPromise9ShapesReadBack(t *testing.T) {
	d := dice(153)
	many := spelling{func() string { return "    " }, compact.word}
	for _, s := range soundShapes() {
		checkReadBack(t, s, compact, many, d.spelling(), d.spelling(), d.spelling())
	}
	for range 400 {
		kind := int64(d.below(4) + 1)
		n := kinds[kind].least + d.below(kinds[kind].most-kinds[kind].least+1)
		checkReadBack(t, d.shape(kind, n), d.spelling(), d.spelling())
	}
}

// readableTexts are texts of each kind, as they are printed and otherwise.
func readableTexts() []string {
	return []string{
		"POINT(1 2)", "POINT(-0.5 90)", "POINT(0 0)", " POINT ( 01.50  -0 ) ", "MULTIPOINT(1 2)", "MULTIPOINT(1 2,3 4)", "MULTIPOINT ( 1  2 , -3.000000001 4 , 5 6 )",
		"LINESTRING(1 2,3 4)", " LINESTRING ( 0  0 ,1.50 -2 ) ", "LINESTRING(-180 -90,180 90,0 0)", "POLYGON((0 0,1 0,1 1,0 0))", " POLYGON ( ( 0 0 , 1 0 , 1 1 , 0 0 ) ) ", "POLYGON( (0 0,1 0,1 1,0.0 -0) )",
		// And such as are read, but are no shapes.
		"POINT(181 0)", "POINT(1 2,3 4)", "LINESTRING(1 2)", "POLYGON((0 0,1 0,1 1,0 1))", "POLYGON((0 0,1 1,0 0))", "POLYGON((180 0,1 0,1 1,-180 0))", "POINT(999999 999999.999999999)",
	}
}

func TestPromise9ChangedTexts(t *testing.T) {
	read := 0
	for _, text := range readableTexts() {
		for _, changed := range changedTexts(text) {
			want := readShape(changed)
			checkParse(t, changed, want)
			if want.Code == impl.OK {
				read++
			}
		}
	}
	if read < 500 {
		t.Errorf("only %d of the changed texts are read", read)
	}
}

// Texts that are made of the pieces of a shape's text, in any order.
func TestPromise9TextsOfPieces(t *testing.T) {
	d := dice(154)
	pieces := []string{" ", " ", "(", ")", "((", "))", ",", "1 2", "1 2", "3.5 -4", "0 0", "POINT", "LINESTRING", "MULTIPOINT", "POLYGON", "POINT(", "POLYGON((", "LINESTRING(", "MULTI", "-", ".", "7"}
	for range 200000 {
		text := ""
		for range 1 + d.below(9) {
			text += pieces[d.below(len(pieces))]
		}
		checkParse(t, text, readShape(text))
	}
}

func TestPromise9ReadTextsByHand(t *testing.T) {
	one := impl.ShapeResult{Shape: impl.Shape{Kind: kindPoint, Points: []impl.Point{pointAt(degree, 2*degree)}}}
	for _, text := range []string{
		"POINT(1 2)", " POINT(1 2)", "POINT (1 2)", "POINT( 1 2)", "POINT(1  2)", "POINT(1 2 )", "POINT(1 2) ", "   POINT   (   1   2   )   ", "POINT(01 002.0)", "POINT(1.000000000 000002)",
	} {
		checkParse(t, text, one)
	}
	a, b := pointAt(0, 0), pointAt(1500000000, -2*degree)
	line := impl.ShapeResult{Shape: impl.Shape{Kind: kindLine, Points: []impl.Point{a, b}}}
	for _, text := range []string{"LINESTRING(0 0,1.5 -2)", "LINESTRING(-0 0.0,1.50 -02)", "LINESTRING(0 0 ,1.5 -2)", "LINESTRING(0 0, 1.5 -2)", "  LINESTRING  (  0  0  ,  1.5  -2  )  "} {
		checkParse(t, text, line)
	}
	ring := impl.ShapeResult{Shape: impl.Shape{Kind: kindRing, Points: []impl.Point{a, b, b, a}}}
	for _, text := range []string{"POLYGON((0 0,1.5 -2,1.5 -2,0 0))", "POLYGON ((0 0,1.5 -2,1.5 -2,0 0))", "POLYGON( (0 0,1.5 -2,1.5 -2,0 0))", "POLYGON((0 0,1.5 -2,1.5 -2,0 0) )", "POLYGON   (   (   0 0,1.5 -2,1.50 -2.0,-0 -0.0   )   )   "} {
		checkParse(t, text, ring)
	}
}

func TestPromise9WrongTextsByHand(t *testing.T) {
	for _, text := range []string{
		// No shape at all.
		"", " ", "(", "()", "1 2", "(1 2)", "((0 0,1 0,1 1,0 0))", "POINT", "POINT(", "POINT()", "POINT( )", "POINT(1", "POINT(1 ", "POINT(1 2", "POINT 1 2", "POINT1 2)", "POINT)1 2(", "POLYGON", "POLYGON()", "POLYGON(())", "POLYGON(( ))", "POINT EMPTY", "EMPTY",
		// Names.
		"point(1 2)", "Point(1 2)", "pOINT(1 2)", "POINt(1 2)", "PO INT(1 2)", "P OINT(1 2)", "POIN T(1 2)", "POIN(1 2)", "OINT(1 2)", "POINTS(1 2)", "POINTT(1 2)", "PPOINT(1 2)", "MULTI(1 2)", "MULTI POINT(1 2)", "MULTIPOIN(1 2)", "MULTIPOINTS(1 2)", "MULTIMULTIPOINT(1 2)", "multiPOINT(1 2)",
		"LINE(1 2,3 4)", "STRING(1 2,3 4)", "LINE STRING(1 2,3 4)", "LINESTRINGS(1 2,3 4)", "LINESTRIN(1 2,3 4)", "linestring(1 2,3 4)", "POLY((0 0,1 0,1 1,0 0))", "POLYGONS((0 0,1 0,1 1,0 0))", "POLYGO((0 0,1 0,1 1,0 0))", "polygon((0 0,1 0,1 1,0 0))", "POINT POINT(1 2)", "POINTMULTIPOINT(1 2)", "MULTIPOLYGON(((0 0,1 0,1 1,0 0)))", "POINTZ(1 2)", "ＰOINT(1 2)",
		// Parentheses.
		"POINT((1 2))", "POINT((1 2)", "POINT(1 2))", "POINT( (1 2) )", "MULTIPOINT((1 2),(3 4))", "MULTIPOINT((1 2,3 4))", "LINESTRING((1 2,3 4))", "POLYGON(0 0,1 0,1 1,0 0)", "POLYGON((0 0,1 0,1 1,0 0)", "POLYGON(0 0,1 0,1 1,0 0))", "POLYGON(((0 0,1 0,1 1,0 0)))", "POLYGON((0 0,1 0,1 1,0 0)))", "POLYGON((0 0,1 0,1 1,0 0),(0 0,1 0,1 1,0 0))", "POINT[1 2]", "POINT{1 2}", "POINT(1 2]", "POINT(1 2)(3 4)", "POINT()(1 2)",
		// Commas.
		"POINT(,1 2)", "POINT(1 2,)", "POINT(1,2)", "POINT(1, 2)", "POINT(1 ,2)", "POINT(1 2),", ",POINT(1 2)", "POINT,(1 2)", "LINESTRING(1 2,,3 4)", "LINESTRING(1 2 , ,3 4)", "LINESTRING(1 2 3 4)", "LINESTRING(1 2;3 4)", "LINESTRING(1 2,3 4,)", "LINESTRING(,1 2,3 4)", "LINESTRING(1 2,3 4),", "LINESTRING(,)", "LINESTRING(1 2, )",
		// Words.
		"POINT(1)", "POINT(12)", "POINT(1 )", "POINT( 2)", "POINT(1 2 3)", "POINT(1-2)", "POINT(1.5.5)", "POINT(1+2)", "LINESTRING(1 2,3)", "LINESTRING(1 2,3 4 5)", "LINESTRING(1,2 3)", "LINESTRING(1 2 3,4 5)", "POINT(1 .5)", "POINT(1 2.)", "POINT(1. 2)", "POINT(1 - 2)", "POINT(1 -)", "POINT(- 2)", "POINT(1 --2)", "POINT(1 +2)", "POINT(1 2-)", "POINT(1 . 5 2)", "POINT(1 .)", "POINT(1. 5 2)", "POINT(1 2e1)", "POINT(a b)", "POINT(1 x)", "POINT(1 2x)",
		"POINT(1000000 2)", "POINT(1 1000000)", "POINT(0000001 2)", "POINT(1.0000000001 2)", "POINT(1 2.0000000000)", "POINT(1 0x2)", "POINT(1 1_0)", "POINT(٣ 2)", "POINT(1 ２)", "POINT(1 −2)",
		// Blanks.
		"\tPOINT(1 2)", "POINT\t(1 2)", "POINT(\t1 2)", "POINT(1\t2)", "POINT(1 \t2)", "POINT(1 2\t)", "POINT(1 2)\t", "POINT(1\n2)", "POINT(1 2)\n", "\nPOINT(1 2)", "POINT\n(1 2)", "POINT(1 2)\r\n", "POINT(1 2)\x00", "POINT(1\x002)", "POINT(1\v2)", "POINT(1\u00a02)", "POINT(1 2)\u00a0", "\ufeffPOINT(1 2)", "POINT(1\xa02)", "POINT(1 2)\xff", "POLYGON(\t(0 0,1 0,1 1,0 0))", "POLYGON((0 0,1 0,1 1,0 0)\n)",
		// Behind the end.
		"POINT(1 2)x", "POINT(1 2) x", "POINT(1 2)POINT(1 2)", "POINT(1 2) POINT(1 2)", "POINT(1 2);", "POINT(1 2).", "POINT(1 2) 3", "POINT(1 2))", "POINT(1 2) )", "POINT(1 2)(", "POINT(1 2),3 4",
	} {
		checkParseCode(t, text, impl.ErrText)
	}
}

// The text is asked ahead of the shape, and of the shape the codes in their order.
func TestPromise9ParseCodes(t *testing.T) {
	for text, code := range map[string]int64{
		"POINT(180 90)": impl.OK, "POINT(-180 -90)": impl.OK, "POINT(180.000000001 0)": impl.ErrRange, "POINT(-180.000000001 0)": impl.ErrRange, "POINT(0 90.000000001)": impl.ErrRange, "POINT(0 -90.000000001)": impl.ErrRange, "POINT(181 0)": impl.ErrRange, "POINT(0 91)": impl.ErrRange, "POINT(100 91)": impl.ErrRange, "POINT(999999.999999999 0)": impl.ErrRange, "LINESTRING(0 0,0 -999999)": impl.ErrRange,
		"POINT(1 2,3 4)": impl.ErrMany, "LINESTRING(1 2)": impl.ErrMany, "POLYGON((0 0))": impl.ErrMany, "POLYGON((0 0,1 0,0 0))": impl.ErrMany, "POLYGON((0 0,1 0,1 1))": impl.ErrMany,
		"POLYGON((0 0,1 0,1 1,0 1))": impl.ErrForm, "POLYGON((180 0,1 0,1 1,-180 0))": impl.ErrForm, "POLYGON((0 90,1 0,1 1,1 90))": impl.ErrForm, "POLYGON((0 0,1 0,1 1,0 0.000000001))": impl.ErrForm, "POLYGON((0 0,1 0,1 1,-0 0.0))": impl.OK,
		"POINT(181 0,0 0)": impl.ErrRange, "LINESTRING(181 0)": impl.ErrRange, "POLYGON((181 0,1 0))": impl.ErrRange, "POLYGON((0 0,1 0,1 1,0 91))": impl.ErrRange,
		"POINT(181 0": impl.ErrText, "POINT(181 0)x": impl.ErrText, "POINT(181 0,)": impl.ErrText, "POINT(1 2,3 4": impl.ErrText, "LINESTRING(1 2": impl.ErrText, "POLYGON((0 0,1 0,1 1,0 1)": impl.ErrText, "POINT(1000000 0)": impl.ErrText,
	} {
		if got := impl.ParseShape(text); got.Code != code {
			t.Errorf("ParseShape of %q: got %v, want %d", text, got, code)
		}
	}
	for kind, each := range kinds {
		for n := 1; n <= 40; n++ {
			wrong := impl.Shape{Kind: kind, Points: alike(n, pointAt(181*degree, 0))}
			for _, s := range []impl.Shape{wrong, {Kind: kind, Points: alike(n, pointAt(7, 0))}, {Kind: kind, Points: append(alike(n-1, pointAt(7, 0)), pointAt(8, 0))}} {
				text := compact.spell(s)
				checkParse(t, text, readShape(text))
				if len(text) < mostText {
					checkParseCode(t, text+each.name, impl.ErrText)
				}
			}
		}
	}
}

// grownTexts are a text that is made so many bytes long by blanks, at each place where they may stand.
func grownTexts(s impl.Shape, long int) []string {
	var texts []string
	for at := 0; ; at++ {
		place := -1
		put := func(blanks string) string {
			return spelling{func() string {
				place++
				if place == at {
					return blanks
				}
				return ""
			}, compact.word}.spell(s)
		}
		short := len(put(""))
		if at > place {
			return texts
		}
		place = -1
		texts = append(texts, put(strings.Repeat(" ", long-short)))
	}
}

func TestPromise9MaxText(t *testing.T) {
	for _, s := range soundShapes()[:30] {
		for _, long := range []int{mostText - 1, mostText} {
			for _, text := range grownTexts(s, long) {
				if len(text) != long {
					t.Fatalf("%q has %d bytes", text, len(text))
				}
				checkParse(t, text, impl.ShapeResult{Shape: s})
			}
		}
		for _, text := range append(grownTexts(s, mostText+1), grownTexts(s, mostText+2)...) {
			checkParseCode(t, text, impl.ErrMany)
		}
	}
	for _, piece := range []string{" ", "x", "(", "0", "-", ",", "1 2,", "POINT(1 2)", "\x00", "\xff"} {
		filled := strings.Repeat(piece, mostText)
		checkParseCode(t, filled[:mostText-1], impl.ErrText)
		checkParseCode(t, filled[:mostText], impl.ErrText)
		checkParseCode(t, filled+piece, impl.ErrMany)
		checkParseCode(t, (filled + piece)[:mostText+1], impl.ErrMany)
		checkParseCode(t, "POINT(181 0)"+filled, impl.ErrMany)
	}
	// Bytes are counted, not letters.
	checkParseCode(t, strings.Repeat("é", mostText/2), impl.ErrText)
	checkParseCode(t, strings.Repeat("é", mostText/2)+" ", impl.ErrMany)
}

// The longest text that is printed can be read back.
func TestPromise9LongestPrint(t *testing.T) {
	far := pointAt(-179999999999, -89999999999)
	for kind := int64(kindMulti); kind <= kindRing; kind++ {
		s := impl.Shape{Kind: kind, Points: alike(mostPoints, far)}
		want := strings.TrimSuffix(strings.Repeat("-179.999999999 -89.999999999,", mostPoints), ",")
		if got := impl.PrintShape(s).Text; !strings.Contains(got, "("+want+")") {
			t.Errorf("PrintShape of %v: got %q", s, got)
		}
		checkReadBack(t, s)
	}
}

// differentShapes are shapes of which no two are the same, with faults and without.
func differentShapes() []impl.Shape {
	a, b := pointAt(1, 2), pointAt(2, 1)
	lists := [][]impl.Point{nil, {a}, {b}, {a, b}, {b, a}, {a, a}, {a, b, a}, {a, pointAt(1, 3)}, {a, pointAt(3, 1)}, {pointAt(-1, 2)}, {pointAt(1, -2)}, alike(12, a), alike(13, a), append(alike(12, a), b), {pointAt(math.MinInt64, math.MaxInt64)}, {pointAt(halfLon, 0)}, {pointAt(-halfLon, 0)}}
	var list []impl.Shape
	for _, kind := range append(noKinds(), kindPoint, kindMulti, kindLine, kindRing) {
		for _, points := range lists {
			list = append(list, impl.Shape{Kind: kind, Points: points})
		}
	}
	return list
}

func TestPromise9SameShapes(t *testing.T) {
	list := differentShapes()
	for i, a := range list {
		for j, b := range list {
			other := impl.Shape{Kind: b.Kind, Points: append([]impl.Point{}, b.Points...)}
			if got := impl.SameShapes(a, other); got != (i == j) {
				t.Errorf("SameShapes of %v and %v: got %v", a, other, got)
			}
		}
	}
	for _, text := range readableTexts() {
		x, y := impl.ParseShape(text), impl.ParseShape(" "+text)
		if !impl.SameShapes(x.Shape, y.Shape) {
			t.Errorf("SameShapes of two that are read of %q", text)
		}
	}
}

// The examples of the document that speak of shapes.
func TestPromise9Examples(t *testing.T) {
	if got := impl.CoordText(-1500000000); got != (impl.TextResult{Text: "-1.5"}) {
		t.Errorf("CoordText of -1500000000: got %v", got)
	}
	s := impl.Shape{Kind: impl.KindPoint, Points: []impl.Point{{Lon: 1 * impl.Nano, Lat: 2 * impl.Nano}}}
	if got := impl.PrintShape(s); got != (impl.TextResult{Text: "POINT(1 2)"}) {
		t.Errorf("PrintShape of %v: got %v", s, got)
	}
}
