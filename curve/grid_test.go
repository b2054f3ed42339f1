package curve_test

import (
	"fmt"
	"math/big"
	"testing"

	"trank/api"
	"trank/curve"
)

// P2.7
func TestUpperAndLower(t *testing.T) {
	for _, p := range pairs() {
		a, b := p[0], p[1]
		upper, e := curve.Upper(a, b)
		same(t, fmt.Sprint("Upper ", a, b), show(upper, e), reckon(func() []api.Point { return envelopeOf(a, b, 1) }))
		lower, e2 := curve.Lower(a, b)
		same(t, fmt.Sprint("Lower ", a, b), show(lower, e2), reckon(func() []api.Point { return envelopeOf(a, b, -1) }))
		if e != api.OK || e2 != api.OK {
			continue
		}
		everywhere(domain(a, b), func(x *big.Rat) {
			low, high := value(a, x), value(b, x)
			if low.Cmp(high) > 0 {
				low, high = high, low
			}
			if value(upper, x).Cmp(high) != 0 || value(lower, x).Cmp(low) != 0 {
				t.Error(a, b, x, upper, lower)
			}
		})
	}
}

// P2.7
func TestCrossings(t *testing.T) {
	for _, p := range pairs() {
		a, b := p[0], p[1]
		same(t, fmt.Sprint("Crossings ", a, b), show(curve.Crossings(a, b)), reckon(func() []api.Frac {
			_, l := gridOf(a, b)
			return l
		}))
	}
	for _, c := range []struct {
		what string
		a, b []api.Point
		want []api.Frac
	}{
		{"at a stop", pts(1, 1, 2, 4, 3, 5), pts(1, 2, 2, 4, 3, 9), nil},
		{"at a stop, to the other side", pts(1, 1, 2, 4, 3, 9), pts(1, 2, 2, 4, 3, 5), []api.Frac{n(2)}},
		{"along a segment", pts(1, 1, 2, 4, 3, 5, 4, 9), pts(1, 2, 2, 4, 3, 5, 4, 6), nil},
		{"at the end", pts(1, 1, 2, 4), pts(1, 2, 2, 4), nil},
		{"between stops and at one", pts(1, 1, 2, 4, 3, 5, 4, 9), pts(1, 2, 2, 3, 3, 5, 4, 6), []api.Frac{f(3, 2)}},
		{"twice", pts(1, 1, 2, 4, 3, 5, 4, 6), pts(1, 2, 2, 3, 3, 5, 4, 9), []api.Frac{f(3, 2), n(3)}},
		{"nowhere", pts(4, 4), pts(4, 8), nil},
		{"the same", bent(48), bent(48), nil},
	} {
		same(t, c.what, show(curve.Crossings(c.a, c.b)), ok(c.want))
		same(t, c.what+", exchanged", show(curve.Crossings(c.b, c.a)), ok(c.want))
	}
}

// P2.7: stops and crossings of the grid, up to 48 and above.
func TestGridSize(t *testing.T) {
	withOneMore := func(c []api.Point) []api.Point { return append(line(f(1, 2), n(1)), c[1:]...) }
	for _, c := range []struct {
		a, b []api.Point
		grid int
	}{
		{bent(24), mirrored(bent(24)), 46}, {withOneMore(bent(24)), mirrored(bent(24)), 47},
		{bent(25), mirrored(bent(25)), 48}, {withOneMore(bent(25)), mirrored(bent(25)), 49}, {bent(26), mirrored(bent(26)), 50}, {bent(48), mirrored(bent(48)), 94},
		{bent(48), bent(48), 48}, {bent(47), withOneMore(bent(47)), 48}, {bent(48), withOneMore(bent(47)), 48},
	} {
		for name, g := range map[string]func(a, b []api.Point) string{
			"Upper":     func(a, b []api.Point) string { return show(curve.Upper(a, b)) },
			"Lower":     func(a, b []api.Point) string { return show(curve.Lower(a, b)) },
			"Crossings": func(a, b []api.Point) string { return show(curve.Crossings(a, b)) },
		} {
			for _, have := range []string{g(c.a, c.b), g(c.b, c.a)} {
				if (have == fails(api.ErrSize)) != (c.grid > 48) {
					t.Error(name, len(c.a), len(c.b), c.grid, have)
				}
			}
		}
	}
	// Of a grid of more than 48 numbers that cannot all be computed, ErrRange is the first error.
	a, b := bent(40), mirrored(bent(40))
	a, b = append(a[:39], pt(n(most/2), n(most-1))), append(b[:39], pt(n(most/3), n(most)))
	same(t, "ErrRange before ErrSize", show(curve.Crossings(a, b)), fails(api.ErrRange))
	same(t, "ErrRange before ErrSize", show(curve.Upper(a, b)), fails(api.ErrRange))
	same(t, "ErrRange before ErrSize", show(curve.Lower(a, b)), fails(api.ErrRange))
}

// P2.14
func TestEnvelopes(t *testing.T) {
	checked := 0
	for _, p := range pairs() {
		a, b := p[0], p[1]
		same(t, fmt.Sprint("Upper ", a, b), show(curve.Upper(b, a)), show(curve.Upper(a, b)))
		same(t, fmt.Sprint("Lower ", a, b), show(curve.Lower(b, a)), show(curve.Lower(a, b)))
		upper, e := curve.Upper(a, b)
		lower, e2 := curve.Lower(a, b)
		if e != api.OK || e2 != api.OK {
			continue
		}
		for _, c := range [][]api.Point{a, b} {
			c, e := curve.Cut(c, least(end(a).X, end(b).X))
			if e != api.OK {
				continue
			}
			for _, u := range [][2][]api.Point{{lower, c}, {c, upper}, {lower, upper}} {
				if is, e := curve.Under(u[0], u[1]); e == api.OK && !is {
					t.Error(a, b, u)
				} else if e == api.OK {
					checked++
				}
			}
		}
	}
	if checked < 3000 {
		t.Error(checked)
	}
}
