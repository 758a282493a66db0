package tests

import (
	"fmt"
	"math"
	"math/big"
	"slices"
	"testing"

	"loop.example/g00742/impl"
)

// The numbers of chapter 7, told once more.
const (
	yes     = 1
	no      = 2
	unknown = 3
	mostFar = 1000000000000000
)

func TestPromise8Numbers(t *testing.T) {
	if impl.Yes != yes || impl.No != no || impl.Unknown != unknown || impl.MaxFar != mostFar {
		t.Error("Yes, No, Unknown, MaxFar")
	}
}

// farCase is a range, how far it is asked, and what has to come of it.
type farCase struct {
	low, high, far int64
	code, value    int64
}

func (c farCase) check(t *testing.T) {
	t.Helper()
	if got := impl.ThreeOf(impl.Range{Low: c.low, High: c.high}, c.far); got != (impl.IntResult{Code: c.code, Value: c.value}) {
		t.Errorf("ThreeOf of %d to %d and %d: got %v, want %d with the code %d", c.low, c.high, c.far, got, c.value, c.code)
	}
}

func TestPromise8ThreeByHand(t *testing.T) {
	for _, c := range []farCase{
		{5, 7, 4, impl.OK, no}, {5, 7, 5, impl.OK, unknown}, {5, 7, 6, impl.OK, unknown}, {5, 7, 7, impl.OK, yes}, {5, 7, 8, impl.OK, yes}, {5, 7, 0, impl.OK, no}, {5, 7, mostFar, impl.OK, yes},
		{5, 6, 4, impl.OK, no}, {5, 6, 5, impl.OK, unknown}, {5, 6, 6, impl.OK, yes},
		{5, 5, 4, impl.OK, no}, {5, 5, 5, impl.OK, yes}, {5, 5, 6, impl.OK, yes},
		{0, 0, 0, impl.OK, yes}, {0, 1, 0, impl.OK, unknown}, {0, 1, 1, impl.OK, yes}, {1, 1, 0, impl.OK, no}, {1, 2, 0, impl.OK, no},
		{-3, -1, 0, impl.OK, yes}, {-3, 0, 0, impl.OK, yes}, {-3, 1, 0, impl.OK, unknown}, {math.MinInt64, math.MinInt64, 0, impl.OK, yes},
		{mostFar, mostFar, mostFar, impl.OK, yes}, {mostFar, mostFar, mostFar - 1, impl.OK, no}, {mostFar - 1, mostFar, mostFar - 1, impl.OK, unknown},
		{mostFar, mostFar + 1, mostFar, impl.OK, unknown}, {mostFar + 1, mostFar + 1, mostFar, impl.OK, no}, {mostFar + 1, math.MaxInt64, mostFar, impl.OK, no}, {math.MaxInt64, math.MaxInt64, mostFar, impl.OK, no},
		{math.MinInt64, math.MaxInt64, 0, impl.OK, unknown}, {math.MinInt64, math.MaxInt64, mostFar, impl.OK, unknown},
		{5, 7, -1, impl.ErrRange, 0}, {5, 7, mostFar + 1, impl.ErrRange, 0}, {5, 7, math.MinInt64, impl.ErrRange, 0}, {5, 7, math.MaxInt64, impl.ErrRange, 0},
		{-5, -3, -1, impl.ErrRange, 0}, {mostFar, mostFar + 1, mostFar + 1, impl.ErrRange, 0}, {math.MinInt64, math.MaxInt64, -1, impl.ErrRange, 0},
		{8, 7, 5, impl.ErrForm, 0}, {8, 7, 7, impl.ErrForm, 0}, {8, 7, 8, impl.ErrForm, 0}, {8, 7, 9, impl.ErrForm, 0}, {1, 0, 0, impl.ErrForm, 0}, {0, -1, 0, impl.ErrForm, 0}, {math.MaxInt64, math.MinInt64, 5, impl.ErrForm, 0},
		// The form is asked first.
		{8, 7, -1, impl.ErrForm, 0}, {8, 7, mostFar + 1, impl.ErrForm, 0}, {math.MaxInt64, math.MinInt64, math.MinInt64, impl.ErrForm, 0},
	} {
		c.check(t)
	}
}

// threeOfAll asks each number of a range by itself.
func threeOfAll(low int64, high int64, far int64) int64 {
	within, beyond := 0, 0
	for x := low; x <= high; x++ {
		if x <= far {
			within++
		} else {
			beyond++
		}
	}
	switch {
	case beyond == 0:
		return yes
	case within == 0:
		return no
	}
	return unknown
}

// All that may be so says yes, or all says no, or it is not told.
func TestPromise8ThreeOfEachNumber(t *testing.T) {
	for _, about := range []int64{0, 7, 65536, 1 << 32, mostFar - 3, mostFar} {
		for low := about - 5; low <= about+5; low++ {
			for high := low; high <= about+5; high++ {
				for far := max(0, about-7); far <= min(mostFar, about+7); far++ {
					farCase{low, high, far, impl.OK, threeOfAll(low, high, far)}.check(t)
				}
			}
		}
	}
}

// badFars are just out of bounds, and far out.
func badFars() []int64 {
	return []int64{-1, -2, -mostFar, -1 << 32, math.MinInt64, math.MinInt64 + 1, mostFar + 1, mostFar + 2, 2 * mostFar, 1 << 50, 1 << 62, math.MaxInt64 - 1, math.MaxInt64}
}

func TestPromise8ThreeCodes(t *testing.T) {
	ends := []int64{math.MinInt64, -mostFar, -1, 0, 1, 1 << 32, mostFar - 1, mostFar, mostFar + 1, math.MaxInt64}
	for _, low := range ends {
		for _, high := range ends {
			for _, far := range badFars() {
				if low > high {
					farCase{low, high, far, impl.ErrForm, 0}.check(t)
				} else {
					farCase{low, high, far, impl.ErrRange, 0}.check(t)
				}
			}
			for _, far := range []int64{0, 1, 5, mostFar - 1, mostFar} {
				if low > high {
					farCase{low, high, far, impl.ErrForm, 0}.check(t)
				}
			}
		}
	}
}

func TestPromise8Texts(t *testing.T) {
	told := map[int64]string{yes: "yes", no: "no", unknown: "unknown"}
	answers := []int64{math.MinInt64, math.MinInt64 + 1, 1 + 1<<8, 2 + 1<<16, 3 + 1<<32, 1 + math.MinInt64, math.MaxInt64}
	for answer := int64(-300); answer <= 300; answer++ {
		answers = append(answers, answer)
	}
	for _, answer := range answers {
		want := impl.TextResult{Text: told[answer]}
		if want.Text == "" {
			want.Code = impl.ErrRange
		}
		if got := impl.AskText(answer); got != want {
			t.Errorf("AskText of %d: got %v, want %v", answer, got, want)
		}
	}
}

// rangesOf are what is told of how far two sets are from each other, with one precision after the other, without the program.
func rangesOf(pair setPair) []impl.Range {
	var ranges []impl.Range
	for _, p := range precisions {
		ranges = append(ranges, steps(p).setDistance(pair[0], pair[1]))
	}
	return ranges
}

// askOf is what chapter 7 tells of these ranges.
func askOf(ranges []impl.Range, far int64) impl.AskResult {
	for i, each := range ranges {
		if each.High <= far {
			return impl.AskResult{Answer: yes, Bits: precisions[i]}
		}
		if each.Low > far {
			return impl.AskResult{Answer: no, Bits: precisions[i]}
		}
	}
	return impl.AskResult{Answer: unknown, Bits: 96}
}

// farsAbout are the bounds, the ends of all ranges, their neighbours and what is between, rising.
func farsAbout(ranges []impl.Range) []int64 {
	fars := []int64{0, 1, mostFar - 1, mostFar}
	for _, each := range ranges {
		for by := int64(-1); by <= 1; by++ {
			fars = append(fars, each.Low+by, each.High+by)
		}
		fars = append(fars, each.Low+(each.High-each.Low)/2)
	}
	fars = slices.DeleteFunc(fars, func(far int64) bool { return far < 0 })
	slices.Sort(fars)
	return slices.Compact(fars)
}

// isSure tells that an answer is so, where the true way of a gap is told in fine places.
func isSure(answer int64, far int64, gap *big.Int) bool {
	truth, room := product(gap, big.NewInt(radius)), product(slack, big.NewInt(radius))
	asked := new(big.Int).Lsh(big.NewInt(far), fine)
	switch answer {
	case yes:
		return truth.Sub(truth, room).Cmp(asked) <= 0
	case no:
		return truth.Add(truth, room).Cmp(asked) > 0
	}
	return answer == unknown
}

// checkAsk asks both ways around.
func checkAsk(t *testing.T, pair setPair, far int64, want impl.AskResult) {
	t.Helper()
	got, back := impl.WithinOf(pair[0], pair[1], far), impl.WithinOf(pair[1], pair[0], far)
	if got != want || back != want {
		t.Errorf("WithinOf of %v and %d: got %v, and %v the other way, want %v", pair, far, got, back, want)
	}
}

// askedPairs are sets of all sizes, and points that are nearly the same or nearly opposite each other, which the lower precisions tell widely.
func askedPairs() []setPair {
	list := setPairs()
	for _, c := range knownAsks() {
		list = append(list, setPair{{c.a}, {c.b}})
	}
	d := dice(121)
	many := d.places(mostPoints)
	near := pointsAbout(many[5])
	return append(list, setPair{many, {near[2]}}, setPair{{near[3]}, many}, setPair{near[:3], near[3:]}, setPair{{many[0]}, pointsAbout(opposite(many[0]))})
}

// Each question is answered as the steps answer it, to the precision; yes and no are true; and as far rises there is no, then unknown, then yes.
func TestPromise8Asks(t *testing.T) {
	for i, pair := range askedPairs() {
		t.Run(fmt.Sprint(i), func(t *testing.T) {
			t.Parallel()
			ranges, gap := rangesOf(pair), trueGap(pair[0], pair[1])
			rest := []int64{no, unknown, yes}
			for _, far := range farsAbout(ranges) {
				want := askOf(ranges, far)
				checkAsk(t, pair, far, want)
				if !isSure(want.Answer, far, gap) {
					t.Errorf("WithinOf of %v and %d: %v is not true", pair, far, want)
				}
				for len(rest) > 0 && rest[0] != want.Answer {
					rest = rest[1:]
				}
				if len(rest) == 0 {
					t.Fatalf("WithinOf of %v: %v of %d, but not so of what is nearer", pair, want, far)
				}
			}
		})
	}
}

// knownAsk is two points, and what is told of them from each far on, up to the next one.
type knownAsk struct {
	a, b impl.Point
	from []farAnswer
}

type farAnswer struct {
	far, answer, bits int64
}

// knownAsks are questions that are answered by each precision, either way, and such as none answers.
func knownAsks() []knownAsk {
	return []knownAsk{
		// A degree along the equator.
		{pointAt(0, 0), pointAt(degree, 0), []farAnswer{{0, no, 48}, {111195080229, no, 72}, {111195080233, unknown, 96}, {111195080234, yes, 72}, {111195080239, yes, 48}}},
		// A billionth of it.
		{pointAt(0, 0), pointAt(1, 0), []farAnswer{{0, no, 72}, {92, no, 96}, {111, unknown, 96}, {112, yes, 96}, {161, yes, 72}, {537039, yes, 48}}},
		{pointAt(0, 0), pointAt(100, 0), []farAnswer{{0, no, 72}, {11119, unknown, 96}, {11120, yes, 96}, {11121, yes, 72}, {537039, yes, 48}}},
		// Nearly the same place, and yet not the same.
		{pointAt(0, poleLat-1), pointAt(1, poleLat-1), []farAnswer{{0, unknown, 96}, {1, yes, 96}, {161, yes, 72}, {657735, yes, 48}}},
		// As far as can be.
		{pointAt(0, 0), pointAt(halfLon, 0), []farAnswer{{0, no, 48}, {20015113904993, no, 72}, {20015114441904, no, 96}, {20015114442035, unknown, 96}, {20015114442036, yes, 72}, {20015114442040, yes, 48}}},
		// The same place, by other numbers.
		{pointAt(halfLon, 5), pointAt(-halfLon, 5), []farAnswer{{0, yes, 48}}}, {pointAt(7, -poleLat), pointAt(-9, -poleLat), []farAnswer{{0, yes, 48}}},
	}
}

func TestPromise8KnownAsks(t *testing.T) {
	told := map[[2]int64]bool{}
	for _, c := range knownAsks() {
		pair := setPair{{c.a}, {c.b}}
		for i, each := range c.from {
			want := impl.AskResult{Answer: each.answer, Bits: each.bits}
			told[[2]int64{each.answer, each.bits}] = true
			last := int64(mostFar)
			if i+1 < len(c.from) {
				last = c.from[i+1].far - 1
			}
			for _, far := range []int64{each.far, each.far + (last-each.far)/2, last} {
				checkAsk(t, pair, far, want)
			}
		}
	}
	if len(told) != 7 {
		t.Errorf("of each answer by each precision, and of none by the last one, there are only %v", told)
	}
}

// Sets with a point in common are within each far, and the first precision says so.
func TestPromise8CommonPoints(t *testing.T) {
	d := dice(122)
	for _, n := range []int{1, 2, 7, mostPoints} {
		a := d.places(n)
		b := append(d.places(mostPoints-1), a[n/2])
		for _, pair := range []setPair{{a, b}, {a, a}, {a, turnedRound(a)}, {alike(n, a[0]), alike(13-n, a[0])}} {
			for _, far := range []int64{0, 1, mostFar} {
				checkAsk(t, pair, far, impl.AskResult{Answer: yes, Bits: 48})
			}
			if got := impl.BestDistance(pair[0], pair[1]); got != (impl.RangeResult{}) {
				t.Errorf("BestDistance of %v: got %v", pair, got)
			}
		}
	}
}

// checkSetCode checks what is answered of two sets of which one has a fault.
func checkSetCode(t *testing.T, pair setPair, code int64) {
	t.Helper()
	for _, far := range append(badFars(), 0, 5, mostFar) {
		if got := impl.WithinOf(pair[0], pair[1], far); got != (impl.AskResult{Code: code}) {
			t.Errorf("WithinOf of %v and %d: got %v, want %d", pair, far, got, code)
		}
	}
	if got := impl.BestDistance(pair[0], pair[1]); got != (impl.RangeResult{Code: code}) {
		t.Errorf("BestDistance of %v: got %v, want %d", pair, got, code)
	}
}

func TestPromise8Sizes(t *testing.T) {
	d := dice(123)
	for n := range mostPoints + 4 {
		for _, m := range []int{0, 1, 5, mostPoints, mostPoints + 1} {
			pair := setPair{d.places(n), d.places(m)}
			if min(n, m) == 0 || max(n, m) > mostPoints {
				checkSetCode(t, pair, impl.ErrMany)
				continue
			}
			checkAsk(t, pair, mostFar, impl.AskResult{Answer: yes, Bits: 48})
			if got := impl.BestDistance(pair[0], pair[1]); got.Code != impl.OK {
				t.Errorf("BestDistance of %v: got %v", pair, got)
			}
		}
	}
}

// The fault of a is told ahead of that of b, and both ahead of that of far.
func TestPromise8Codes(t *testing.T) {
	d := dice(124)
	sound, none, many := d.places(3), []impl.Point{}, d.places(mostPoints+1)
	for _, wrong := range faultyPoints() {
		out := append(d.places(2), wrong)
		tooMany := append(d.places(mostPoints), wrong)
		for _, pair := range []setPair{{out, sound}, {sound, out}, {out, out}, {out, nil}, {out, none}, {out, many}, {out, tooMany}, {{wrong}, many}} {
			checkSetCode(t, pair, impl.ErrRange)
		}
		for _, pair := range []setPair{{none, out}, {nil, out}, {many, out}, {tooMany, out}, {tooMany, sound}, {sound, tooMany}, {many, {wrong}}} {
			checkSetCode(t, pair, impl.ErrMany)
		}
	}
}

func TestPromise8FarBounds(t *testing.T) {
	d := dice(125)
	a := d.places(3)
	for _, pair := range []setPair{{a, d.places(2)}, {a, a}, {{a[0]}, {opposite(a[0])}}, {{pointAt(0, 0)}, {pointAt(1, 0)}}} {
		for _, far := range badFars() {
			checkAsk(t, pair, far, impl.AskResult{Code: impl.ErrRange})
		}
		checkAsk(t, pair, mostFar, impl.AskResult{Answer: yes, Bits: 48})
		if got := impl.WithinOf(pair[0], pair[1], 0); got.Code != impl.OK || got.Answer == unknown {
			t.Errorf("WithinOf of %v and 0: got %v", pair, got)
		}
	}
}

// The best distance is that of the highest precision, which is true and narrow.
func TestPromise8BestDistances(t *testing.T) {
	for _, pair := range askedPairs() {
		what := fmt.Sprintf("BestDistance of %v", pair)
		got, back := impl.BestDistance(pair[0], pair[1]), impl.BestDistance(pair[1], pair[0])
		want := steps(96).setDistance(pair[0], pair[1])
		if got != (impl.RangeResult{Range: want}) || back != got || got != impl.SetDistance(96, pair[0], pair[1]) {
			t.Errorf("%s: got %v, and %v the other way, want %v", what, got, back, want)
		}
		if got.Range.High-got.Range.Low > 1 {
			t.Errorf("%s: %v is wide", what, got)
		}
		checkFar(t, what, got, trueGap(pair[0], pair[1]))
	}
}
