package curve_test

import (
	"fmt"
	"math/big"
	"testing"

	"trank/api"
	"trank/curve"
)

// value is that of the curve, exactly.
func value(c []api.Point, x *big.Rat) *big.Rat {
	i := 0
	for rat(c[i+1].X).Cmp(x) < 0 {
		i++
	}
	p, q := c[i], c[i+1]
	part := new(big.Rat).Sub(x, rat(p.X))
	part.Quo(part, new(big.Rat).Sub(rat(q.X), rat(p.X)))
	part.Mul(part, new(big.Rat).Sub(rat(q.Y), rat(p.Y)))
	return part.Add(part, rat(p.Y))
}

// everywhere calls check with many numbers from 0 to end.
func everywhere(end *big.Rat, check func(x *big.Rat)) {
	for i := range int64(25) {
		check(new(big.Rat).Mul(end, big.NewRat(i, 24)))
	}
}

func domain(a, b []api.Point) *big.Rat { return rat(least(end(a).X, end(b).X)) }

// P2.5
func TestSum(t *testing.T) {
	for _, p := range pairs() {
		a, b := p[0], p[1]
		c, e := curve.Sum(a, b)
		same(t, fmt.Sprint("Sum ", a, b), show(c, e), reckon(func() []api.Point { return sumOf(a, b) }))
		if e != api.OK {
			continue
		}
		everywhere(domain(a, b), func(x *big.Rat) {
			if y := new(big.Rat).Add(value(a, x), value(b, x)); y.Cmp(value(c, x)) != 0 {
				t.Error(a, b, x, y)
			}
		})
	}
	same(t, "made normal", show(curve.Sum(pts(1, 1, 2, 3), pts(1, 2, 2, 3))), ok(pts(2, 6)))
	same(t, "the shorter one", show(curve.Sum(pts(1, 1, 9, 2), pts(3, 3))), ok([]api.Point{pt(n(0), n(0)), pt(n(1), n(2)), pt(n(3), f(17, 4))}))
}

// P2.5 to P2.8: 48 stops, and 49.
func TestStops(t *testing.T) {
	two := ofTwo()
	half := []api.Point{pt(n(0), n(0)), pt(f(1, 2), n(1)), pt(n(100), n(200))}
	beyond := append(line(n(47), n(94)), pt(f(95, 2), n(100)))
	for _, c := range two[1:8] {
		a := straight(48)
		if c.name == "Series" {
			a = inverseOf(a)
		}
		same(t, c.name+" of 48 and beyond", fmt.Sprint(c.text(a, beyond) == fails(api.ErrSize)), "false")
		b, d := half, beyond
		if c.name == "Series" || c.name == "Compose" {
			b, d = inverseOf(half), inverseOf(beyond)
		}
		same(t, c.name+" of 49", c.text(a, b), fails(api.ErrSize))
		same(t, c.name+" of 47", fmt.Sprint(c.text(a[:47], b) == fails(api.ErrSize)), "false")
		same(t, c.name+" of 48 and beyond", fmt.Sprint(c.text(a, d) == fails(api.ErrSize)), "false")
		// The values at the stops are not representable; that there are too many comes first.
		tiny := []api.Point{pt(n(0), n(0)), pt(f(1, most), f(1, most-1)), pt(n(100), n(100))}
		same(t, c.name+" of 49 that are out of range", c.text(a, tiny), fails(api.ErrSize))
	}
}

// P2.5
func TestSeries(t *testing.T) {
	for _, p := range pairs() {
		a, b := p[0], p[1]
		same(t, fmt.Sprint("Series ", a, b), show(curve.Series(a, b)), reckon(func() []api.Point { return seriesOf(a, b) }))
	}
}

// P2.13
func TestDeMorgan(t *testing.T) {
	for _, p := range pairs() {
		a, b := p[0], p[1]
		ia, _ := curve.Inverse(a)
		ib, _ := curve.Inverse(b)
		sum, e := curve.Sum(ia, ib)
		series, e2 := curve.Series(a, b)
		if e != e2 {
			t.Error(a, b, e, e2)
		}
		if e != api.OK {
			continue
		}
		same(t, "Series", show(curve.Inverse(sum)), ok(series))
		same(t, "Inverse of Series", show(curve.Inverse(series)), ok(sum))
	}
}

// P2.6
func TestCompose(t *testing.T) {
	for _, p := range pairs() {
		a, b := p[0], p[1]
		c, e := curve.Compose(a, b)
		same(t, fmt.Sprint("Compose ", a, b), show(c, e), reckon(func() []api.Point { return composeOf(a, b) }))
		if e != api.OK {
			continue
		}
		everywhere(rat(end(c).X), func(x *big.Rat) {
			if y := value(a, value(b, x)); y.Cmp(value(c, x)) != 0 {
				t.Error(a, b, x, y)
			}
		})
	}
	same(t, "a of b", show(curve.Compose(pts(1, 3, 2, 4), pts(1, 1, 3, 2))), ok(pts(1, 3, 3, 4)))
	same(t, "the end of b", show(curve.Compose(pts(9, 9), pts(1, 2))), ok(pts(1, 2)))
	same(t, "the end of a", show(curve.Compose(pts(1, 1), pts(9, 9))), ok(pts(1, 1)))
	same(t, "with the inverse", show(curve.Compose(inverseOf(bent(48)), bent(48))), ok(pts(47, 47)))
}

// P2.8
func TestUnder(t *testing.T) {
	for _, p := range pairs() {
		a, b := p[0], p[1]
		u, e := curve.Under(a, b)
		same(t, fmt.Sprint("Under ", a, b), show(u, e), reckon(func() bool { return underOf(a, b) }))
		if e != api.OK {
			continue
		}
		everywhere(domain(a, b), func(x *big.Rat) {
			if u && value(a, x).Cmp(value(b, x)) > 0 {
				t.Error(a, b, x)
			}
		})
	}
	same(t, "itself", show(curve.Under(bent(48), bent(48))), ok(true))
	same(t, "above at the end", show(curve.Under(pts(1, 1, 2, 3), pts(1, 1, 3, 3))), ok(false))
	same(t, "above beyond", show(curve.Under(pts(1, 1, 2, 9), pts(1, 2))), ok(true))
	same(t, "above within", show(curve.Under(pts(1, 2, 2, 3), pts(2, 3))), ok(false))
	// a is above b at 1 already, but half of 1/999999937 is not representable.
	a, b := pts(1, 5, 3, 6), []api.Point{pt(n(0), n(0)), pt(n(1), n(1)), pt(f(999999938, 999999937), n(2)), pt(n(3), n(3))}
	same(t, "all are computed", show(curve.Under(a, b)), fails(api.ErrRange))
	same(t, "all are computed", show(curve.Under(b, a)), fails(api.ErrRange))
}

// P2.8
func TestSame(t *testing.T) {
	for _, p := range pairs() {
		a, b := p[0], p[1]
		same(t, fmt.Sprint("Same ", a, b), show(curve.Same(a, b)), reckon(func() bool { return sameOf(a, b) }))
		if c, e := curve.Norm(a); e == api.OK {
			same(t, fmt.Sprint("Same of Norm ", a), show(curve.Same(a, c)), ok(true))
		}
	}
	same(t, "straight", show(curve.Same(straight(48), pts(47, 94))), ok(true))
	same(t, "shorter", show(curve.Same(straight(48), pts(46, 92))), ok(false))
	steep := line(f(1, most), n(most))
	same(t, "ErrRange of a", show(curve.Same(steep, pts(1, 1))), fails(api.ErrRange))
	same(t, "ErrRange of b", show(curve.Same(pts(1, 1), steep)), fails(api.ErrRange))
	same(t, "equal, but not normal", show(curve.Same(steep, steep)), fails(api.ErrRange))
}
