package tests

import (
	"math/big"

	"loop.example/g00742/impl"
)

// ends are the ends of a span, with which the steps of chapter 4 are reckoned as it tells them, without the program.
type ends struct {
	low  *big.Int
	high *big.Int
}

// steps are those with this precision.
type steps int64

func endsOfSpan(a impl.Span) ends {
	low, high := endsOf(a)
	return ends{low, high}
}

// alone is the span of one number.
func alone(n *big.Int) ends {
	return ends{n, n}
}

func (a ends) plus(b ends) ends {
	return ends{new(big.Int).Add(a.low, b.low), new(big.Int).Add(a.high, b.high)}
}

func (a ends) less(b ends) ends {
	return ends{new(big.Int).Sub(a.low, b.high), new(big.Int).Sub(a.high, b.low)}
}

func (a ends) times(n int64) ends {
	return ends{product(a.low, big.NewInt(n)), product(a.high, big.NewInt(n))}
}

// far is how far the farther end is from 0.
func (a ends) far() *big.Int {
	low, high := new(big.Int).Abs(a.low), new(big.Int).Abs(a.high)
	if low.Cmp(high) > 0 {
		return low
	}
	return high
}

func (a ends) swing() ends {
	return ends{negative(a.far()), a.far()}
}

// fromZero is a with what is below 0 as 0.
func (a ends) fromZero() ends {
	if a.low.Sign() < 0 {
		return ends{new(big.Int), a.high}
	}
	return a
}

func (p steps) one() ends {
	return alone(twoTo(int64(p), 0))
}

// isFar tells that an end is more than n away from 0.
func (p steps) isFar(n int64, a ends) bool {
	return a.far().Cmp(p.one().times(n).low) > 0
}

func (p steps) multiply(a ends, b ends) ends {
	least, greatest := leastAndGreatest(product(a.low, b.low), product(a.low, b.high), product(a.high, b.low), product(a.high, b.high))
	return ends{roundedDown(least, p.one().low), roundedUp(greatest, p.one().low)}
}

func (p steps) square(a ends) ends {
	least, greatest := leastAndGreatest(product(a.low, a.low), product(a.high, a.high))
	if a.low.Sign() <= 0 && a.high.Sign() >= 0 {
		least = new(big.Int)
	}
	return ends{roundedDown(least, p.one().low), roundedUp(greatest, p.one().low)}
}

func (p steps) divide(a ends, b ends) ends {
	low, high := product(a.low, p.one().low), product(a.high, p.one().low)
	least, _ := leastAndGreatest(roundedDown(low, b.low), roundedDown(low, b.high), roundedDown(high, b.low), roundedDown(high, b.high))
	_, greatest := leastAndGreatest(roundedUp(low, b.low), roundedUp(low, b.high), roundedUp(high, b.low), roundedUp(high, b.high))
	return ends{least, greatest}
}

// part is an nth of a.
func (p steps) part(n int64, a ends) ends {
	return p.divide(a, p.one().times(n))
}

func (p steps) root(a ends) ends {
	low, high := product(a.fromZero().low, p.one().low), product(a.high, p.one().low)
	above := new(big.Int).Sqrt(high)
	if product(above, above).Cmp(high) < 0 {
		above.Add(above, big.NewInt(1))
	}
	return ends{new(big.Int).Sqrt(low), above}
}

// turn puts the kth of a series to the sum, or takes it off, if k is odd.
func turn(sum ends, k int64, next ends) ends {
	if k%2 == 1 {
		return sum.less(next)
	}
	return sum.plus(next)
}

func (p steps) arcSeries(x ends) (ends, int64) {
	if p.isFar(1, x) {
		return ends{}, impl.ErrRange
	}
	q, t, sum := p.square(x), x, x
	for k := int64(1); k <= int64(p)/4; k++ {
		t = p.multiply(t, q)
		sum = turn(sum, k, p.part(2*k+1, t))
	}
	return sum.plus(t.swing()), impl.OK
}

func (p steps) pi() ends {
	unit := p.one().low
	of := func(n int64) ends {
		x, _ := p.arcSeries(ends{roundedDown(unit, big.NewInt(n)), roundedUp(unit, big.NewInt(n))})
		return x
	}
	return of(5).times(16).less(of(239).times(4))
}

// atanTold is what is told of the span y of one number.
func (p steps) atanTold(y ends) ends {
	for range 3 {
		y = p.divide(y, p.one().plus(p.root(p.one().plus(p.square(y)))))
	}
	sum, _ := p.arcSeries(y)
	return sum.times(8)
}

func (p steps) atan(x ends) (ends, int64) {
	if p.isFar(2, x) {
		return ends{}, impl.ErrRange
	}
	return ends{p.atanTold(alone(x.low)).low, p.atanTold(alone(x.high)).high}, impl.OK
}

func (p steps) sine(x ends) (ends, int64) {
	if p.isFar(7, x) {
		return ends{}, impl.ErrRange
	}
	y := alone(x.low)
	return p.wave(x, y, func(k int64) int64 { return 2 * k * (2*k + 1) }), impl.OK
}

func (p steps) cosine(x ends) (ends, int64) {
	if p.isFar(7, x) {
		return ends{}, impl.ErrRange
	}
	return p.wave(x, p.one(), func(k int64) int64 { return 2 * k * (2*k - 1) }), impl.OK
}

// wave is the series that begins with t and whose kth is so many times less.
func (p steps) wave(x ends, t ends, less func(k int64) int64) ends {
	q, sum := p.square(alone(x.low)), t
	for k := int64(1); k <= 40; k++ {
		t = p.part(less(k), p.multiply(t, q))
		sum = turn(sum, k, t)
	}
	width := alone(new(big.Int).Sub(x.high, x.low))
	return sum.plus(t.swing()).plus(width.swing())
}

func (p steps) halfTurn(y ends, x ends) (ends, int64) {
	if x.high.Sign() < 0 || y.high.Sign() < 0 {
		return ends{}, impl.ErrRange
	}
	y, x = y.fromZero(), x.fromZero()
	if x.low.Sign() > 0 && y.high.Cmp(x.times(2).low) <= 0 {
		angle, _ := p.atan(p.divide(y, x))
		return angle.times(2), impl.OK
	}
	if y.low.Sign() == 0 || x.high.Cmp(y.times(2).low) > 0 {
		return ends{}, impl.ErrZero
	}
	angle, _ := p.atan(p.divide(x, y))
	return p.pi().less(angle.times(2)), impl.OK
}
