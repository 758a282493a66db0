package tests

import (
	"math/big"
	"regexp"
	"slices"
	"strings"
	"testing"

	"loop.example/g00742/impl"
)

// The numbers of chapter 8, told once more.
const (
	kindPoint = 1
	kindMulti = 2
	kindLine  = 3
	kindRing  = 4
	mostText  = 600
	mostCoord = 999999999999999
)

// The forms of texts are told by patterns, which is another way than the program's.
const (
	coordForm  = `-?[0-9]{1,6}(?:\.[0-9]{1,9})?`
	pairForm   = ` *` + coordForm + ` +` + coordForm + ` *`
	pointsForm = `\(` + pairForm + `(?:,` + pairForm + `)*\)`
)

var (
	coordText = regexp.MustCompile(`^` + coordForm + `$`)
	plainText = regexp.MustCompile(`^ *(POINT|MULTIPOINT|LINESTRING) *` + pointsForm + ` *$`)
	ringText  = regexp.MustCompile(`^ *(POLYGON) *\( *` + pointsForm + ` *\) *$`)
	wordText  = regexp.MustCompile(`[-.0-9]+`)
)

// kinds are the names of all kinds, and how many points each one has at least, and at most.
var kinds = map[int64]struct {
	name        string
	least, most int
}{
	kindPoint: {"POINT", 1, 1},
	kindMulti: {"MULTIPOINT", 1, mostPoints},
	kindLine:  {"LINESTRING", 2, mostPoints},
	kindRing:  {"POLYGON", 4, mostPoints},
}

// writtenCoord is what CoordText has to answer.
func writtenCoord(nano int64) impl.TextResult {
	if nano < -mostCoord || nano > mostCoord {
		return impl.TextResult{Code: impl.ErrRange}
	}
	text := big.NewRat(nano, degree).FloatString(9)
	return impl.TextResult{Text: strings.TrimSuffix(strings.TrimRight(text, "0"), ".")}
}

// readCoord is what ReadCoord has to answer.
func readCoord(text string) impl.IntResult {
	if !coordText.MatchString(text) {
		return impl.IntResult{Code: impl.ErrText}
	}
	degrees, isNumber := new(big.Rat).SetString(text)
	if !isNumber {
		panic(text)
	}
	nano := degrees.Mul(degrees, big.NewRat(degree, 1))
	return impl.IntResult{Value: nano.Num().Int64()}
}

func isOffGlobe(a impl.Point) bool {
	return a.Lon < -halfLon || a.Lon > halfLon || a.Lat < -poleLat || a.Lat > poleLat
}

// faultOfShape is what ShapeFault has to answer.
func faultOfShape(s impl.Shape) int64 {
	kind, isKind := kinds[s.Kind]
	n := len(s.Points)
	switch {
	case !isKind:
		return impl.ErrForm
	case n == 0 || n > mostPoints:
		return impl.ErrMany
	case slices.ContainsFunc(s.Points, isOffGlobe):
		return impl.ErrRange
	case n < kind.least || n > kind.most:
		return impl.ErrMany
	case s.Kind == kindRing && s.Points[0] != s.Points[n-1]:
		return impl.ErrForm
	}
	return impl.OK
}

// writtenShape is what PrintShape has to answer.
func writtenShape(s impl.Shape) impl.TextResult {
	if code := faultOfShape(s); code != impl.OK {
		return impl.TextResult{Code: code}
	}
	return impl.TextResult{Text: compact.spell(s)}
}

// readShape is what ParseShape has to answer.
func readShape(text string) impl.ShapeResult {
	if len(text) > mostText {
		return impl.ShapeResult{Code: impl.ErrMany}
	}
	found := plainText.FindStringSubmatch(text)
	if found == nil {
		found = ringText.FindStringSubmatch(text)
	}
	if found == nil {
		return impl.ShapeResult{Code: impl.ErrText}
	}
	var shape impl.Shape
	for kind, each := range kinds {
		if each.name == found[1] {
			shape.Kind = kind
		}
	}
	words := wordText.FindAllString(text, -1)
	for pair := range slices.Chunk(words, 2) {
		shape.Points = append(shape.Points, pointAt(readCoord(pair[0]).Value, readCoord(pair[1]).Value))
	}
	if code := faultOfShape(shape); code != impl.OK {
		return impl.ShapeResult{Code: code}
	}
	return impl.ShapeResult{Shape: shape}
}

// spelling is a way to write a shape: between any two of its pieces, and at both ends, blanks tells what stands there, and word how a coordinate is written.
type spelling struct {
	blanks func() string
	word   func(nano int64) string
}

// compact is the one way in which shapes are written.
var compact = spelling{func() string { return "" }, func(nano int64) string { return writtenCoord(nano).Text }}

func (w spelling) spell(s impl.Shape) string {
	pieces := []string{kinds[s.Kind].name, "("}
	if s.Kind == kindRing {
		pieces = append(pieces, "(")
	}
	for i, each := range s.Points {
		if i > 0 {
			pieces = append(pieces, ",")
		}
		// The blank between both words is there, whatever else is.
		pieces = append(pieces, w.word(each.Lon)+" ", w.word(each.Lat))
	}
	if s.Kind == kindRing {
		pieces = append(pieces, ")")
	}
	text := w.blanks()
	for _, piece := range append(pieces, ")") {
		text += piece + w.blanks()
	}
	return text
}

// spelledCoords are all texts of a coordinate: with zeros ahead and at the end, and, of 0, below 0 too.
func spelledCoords(nano int64) []string {
	sign, size := "", nano
	if nano < 0 {
		sign, size = "-", -nano
	}
	whole, part, _ := strings.Cut(writtenCoord(size).Text, ".")
	var list []string
	for n := range 7 - len(whole) {
		ahead := sign + strings.Repeat("0", n) + whole
		if part == "" {
			list = append(list, ahead)
		}
		for m := range 10 - len(part) {
			if len(part)+m > 0 {
				list = append(list, ahead+"."+part+strings.Repeat("0", m))
			}
		}
	}
	if nano == 0 {
		for _, text := range slices.Clone(list) {
			list = append(list, "-"+text)
		}
	}
	return list
}

// spelling throws a way to write shapes; few shapes of many points come to more than MaxText bytes by it.
func (d *dice) spelling() spelling {
	return spelling{
		func() string { return strings.Repeat(" ", max(0, d.below(8)-5)) },
		func(nano int64) string {
			list := spelledCoords(nano)
			return list[d.below(len(list))]
		},
	}
}

// edgeCoords are the coordinates that chapter 8 makes one look at, all of which can be written.
func edgeCoords() []int64 {
	list := []int64{0, mostCoord, -mostCoord}
	for _, far := range []int64{
		1, 9, 10, 11, 100, 1000000, 100000000, 100000001, 123456789, 500000000, 900000000, 999999990, 999999999,
		degree, degree + 1, degree + 10, degree + 900000000, 1500000000, 10 * degree, 12*degree + 1, 45 * degree, poleLat, halfLon, 100 * degree, 101010101010101, 100000 * degree, 120000000000000, 999999 * degree, 999999*degree + 1, mostCoord - 1, mostCoord - 9,
	} {
		list = append(list, far, -far)
	}
	return list
}

// shape throws a shape of that kind with n points.
func (d *dice) shape(kind int64, n int) impl.Shape {
	points := d.places(n)
	for i := range points {
		if d.below(2) == 0 {
			// Most coordinates that are written have few digits.
			points[i] = pointAt(int64(d.below(361)-180)*degree, int64(d.below(181)-90)*degree)
		}
		if d.below(4) == 0 {
			points[i].Lon = points[i].Lon / 100000000 * 100000000
		}
	}
	if kind == kindRing && n > 0 {
		points[n-1] = points[0]
	}
	return impl.Shape{Kind: kind, Points: points}
}

// soundShapes are shapes of each kind with each number of points, and those on the edges of the globe.
func soundShapes() []impl.Shape {
	d := dice(141)
	var list []impl.Shape
	for kind := int64(kindPoint); kind <= kindRing; kind++ {
		for n := kinds[kind].least; n <= kinds[kind].most; n++ {
			list = append(list, d.shape(kind, n))
		}
	}
	for _, a := range edgePoints() {
		list = append(list, impl.Shape{Kind: kindPoint, Points: []impl.Point{a}})
	}
	a, b := pointAt(halfLon, 1-poleLat), pointAt(-halfLon, poleLat)
	for kind := int64(kindMulti); kind <= kindRing; kind++ {
		list = append(list, impl.Shape{Kind: kind, Points: alike(4, a)}, impl.Shape{Kind: kind, Points: alike(mostPoints, b)}, impl.Shape{Kind: kind, Points: []impl.Point{a, b, b, a}})
	}
	return append(list, impl.Shape{Kind: kindLine, Points: []impl.Point{a, a}}, impl.Shape{Kind: kindLine, Points: []impl.Point{a, b, a}})
}

// noKinds are just out of bounds, far out, and numbers of which a part is a kind.
func noKinds() []int64 {
	return []int64{0, -1, -2, -3, -4, 5, 6, 100, 1 + 1<<8, 2 + 1<<16, 3 + 1<<32, 4 - 1<<32, -1 << 63, 1<<63 - 1, 1 - 1<<63}
}

// The tests' own texts fit to what the document says of them.
func TestTrueTexts(t *testing.T) {
	for text, nano := range map[string]int64{"0": 0, "-0": 0, "-1.50": -1500000000, "007": 7000000000, "08.5": 8500000000, "0.000000001": 1, "-999999.999999999": -mostCoord} {
		if got := readCoord(text); got != (impl.IntResult{Value: nano}) {
			t.Errorf("%q: got %v, want %d", text, got, nano)
		}
	}
	for _, text := range []string{"", "-", ".5", "1.", "1.0000000001", "1000000", "--1", "1-", "+1", " 1", "1 ", "1\n", "٣"} {
		if got := readCoord(text); got.Code != impl.ErrText {
			t.Errorf("%q: got %v", text, got)
		}
	}
	for nano, text := range map[int64]string{0: "0", -1: "-0.000000001", -1500000000: "-1.5", 12000000001: "12.000000001", 10 * degree: "10"} {
		if got := writtenCoord(nano); got.Text != text {
			t.Errorf("%d: got %v, want %q", nano, got, text)
		}
	}
	if got := spelledCoords(99999900000000); !slices.Equal(got[:3], []string{"99999.9", "99999.90", "99999.900"}) || len(got) != 18 {
		t.Errorf("spelled: got %q", got)
	}
}
