package curve_test

import (
	"fmt"
	"slices"
	"testing"

	"trank/api"
	"trank/curve"
)

// P2.9
func TestHulls(t *testing.T) {
	for _, c := range samples() {
		same(t, fmt.Sprint("Convex ", c), show(curve.Convex(c)), reckon(func() []api.Point { return hullOf(c, 1) }))
		same(t, fmt.Sprint("Concave ", c), show(curve.Concave(c)), reckon(func() []api.Point { return hullOf(c, -1) }))
	}
	convex, concave := pts(1, 1, 2, 3, 3, 6, 4, 10), pts(1, 4, 2, 7, 3, 9, 4, 10)
	for _, c := range []struct {
		c, convex, concave []api.Point
	}{
		{convex, convex, pts(4, 10)}, {concave, pts(4, 10), concave}, {straight(48), pts(47, 94), pts(47, 94)}, {pts(7, 3), pts(7, 3), pts(7, 3)},
		{pts(1, 3, 2, 4, 3, 7, 4, 8), pts(4, 8), pts(1, 3, 3, 7, 4, 8)}, {pts(1, 3, 2, 4, 3, 8, 4, 9), pts(2, 4, 4, 9), pts(1, 3, 3, 8, 4, 9)},
	} {
		same(t, fmt.Sprint("Convex ", c.c), show(curve.Convex(c.c)), ok(c.convex))
		same(t, fmt.Sprint("Concave ", c.c), show(curve.Concave(c.c)), ok(c.concave))
	}
}

// reflected turns a curve round, so that its end becomes (0, 0).
func reflected(c []api.Point) []api.Point {
	var l []api.Point
	for _, p := range slices.Backward(c) {
		l = append(l, pt(sub(end(c).X, p.X), sub(end(c).Y, p.Y)))
	}
	return l
}

// P2.9: a slope that neither the corners nor the segments need counts too.
func TestHullNeedsAllSlopes(t *testing.T) {
	for _, c := range [][]api.Point{
		// The Y of the points 1 and 3 have no representable difference.
		{pt(n(0), n(0)), pt(n(1), f(1, 31607)), pt(n(2), n(1)), pt(n(3), f(31602, 31601)), pt(n(4), n(5))},
		// Those of X and of Y have one, but their quotient is not representable.
		{pt(n(0), n(0)), pt(n(1), f(31608, 31607)), pt(n(2), n(2)), pt(f(3*31601+1, 31601), n(3)), pt(n(5), n(9))},
	} {
		for _, c := range [][]api.Point{c, reflected(c)} {
			if _, e := curve.Slopes(c); e != api.OK {
				t.Error(c, e)
			}
			same(t, fmt.Sprint("Convex ", c), show(curve.Convex(c)), fails(api.ErrRange))
			same(t, fmt.Sprint("Concave ", c), show(curve.Concave(c)), fails(api.ErrRange))
			for _, skipped := range []int{1, 3} {
				less := slices.Delete(slices.Clone(c), skipped, skipped+1)
				same(t, fmt.Sprint("Convex ", less), show(curve.Convex(less)), ok(hullOf(less, 1)))
				same(t, fmt.Sprint("Concave ", less), show(curve.Concave(less)), ok(hullOf(less, -1)))
			}
		}
	}
	same(t, "Convex", show(curve.Convex(line(f(1, most), n(most)))), fails(api.ErrRange))
	same(t, "Concave", show(curve.Concave(line(f(1, most), n(most)))), fails(api.ErrRange))
}

// P2.15
func TestHullPromises(t *testing.T) {
	hulls := 0
	for _, c := range samples() {
		h, e := curve.Convex(c)
		if e != api.OK {
			continue
		}
		hulls++
		if u, e := curve.Under(h, c); e == api.OK && !u {
			t.Error("above", c, h)
		}
		l, e := curve.Slopes(h)
		if e != api.OK {
			t.Error(c, h, e)
		}
		for i := 1; i < len(l); i++ {
			if compare(l[i-1], l[i]) >= 0 {
				t.Error("slopes", c, l)
			}
		}
		for _, p := range h {
			if !slices.Contains(c, p) {
				t.Error("new point", c, p)
			}
		}
		same(t, fmt.Sprint("twice ", c), show(curve.Convex(h)), ok(h))
	}
	if hulls < 150 {
		t.Error(hulls)
	}
}
