package curve_test

import (
	"fmt"
	"slices"
	"testing"

	"trank/api"
	"trank/curve"
)

// What all functions have in common.

// P2.1 to P2.10: ErrArg before every other error, for every argument.
func TestInvalidCurves(t *testing.T) {
	good := pts(1, 1, 2, 3)
	for i, bad := range badCurves() {
		for _, c := range ofOne() {
			same(t, fmt.Sprint(c.name, i), c.text(bad, nil), fails(api.ErrArg))
		}
		for _, c := range ofTwo() {
			same(t, fmt.Sprint(c.name, i, " first"), c.text(bad, good), fails(api.ErrArg))
			same(t, fmt.Sprint(c.name, i, " second"), c.text(good, bad), fails(api.ErrArg))
			same(t, fmt.Sprint(c.name, i, " before ErrSize"), c.text(bent(48), bad), fails(api.ErrArg))
			same(t, fmt.Sprint(c.name, i, " before ErrRange"), c.text(line(f(1, most), n(most)), bad), fails(api.ErrArg))
			same(t, fmt.Sprint(c.name, i, " before ErrRange"), c.text(bad, line(f(1, most), n(most))), fails(api.ErrArg))
		}
	}
}

// P2.2, P2.4, P2.10: ErrArg before ErrRange.
func TestInvalidNumbers(t *testing.T) {
	c := pts(1, 1, 2, 3)
	for i, bad := range badFracs() {
		same(t, fmt.Sprint("At", i), show(curve.At(c, bad)), fails(api.ErrArg))
		same(t, fmt.Sprint("Solve", i), show(curve.Solve(c, bad)), fails(api.ErrArg))
		same(t, fmt.Sprint("Scale", i), show(curve.Scale(c, bad, n(1))), fails(api.ErrArg))
		same(t, fmt.Sprint("Scale", i), show(curve.Scale(c, n(1), bad)), fails(api.ErrArg))
		same(t, fmt.Sprint("Scale", i), show(curve.Scale(c, n(most), bad)), fails(api.ErrArg))
		same(t, fmt.Sprint("Cut", i), show(curve.Cut(c, bad)), fails(api.ErrArg))
		same(t, fmt.Sprint("Work", i), show(curve.Work(c, bad)), fails(api.ErrArg))
	}
	for i, low := range []api.Frac{n(0), n(-1), f(-1, most), n(-most)} {
		same(t, fmt.Sprint("Scale", i), show(curve.Scale(c, low, n(1))), fails(api.ErrArg))
		same(t, fmt.Sprint("Scale", i), show(curve.Scale(c, n(1), low)), fails(api.ErrArg))
		same(t, fmt.Sprint("Cut", i), show(curve.Cut(c, low)), fails(api.ErrArg))
	}
	for i, bad := range badCurves() {
		for _, x := range []api.Frac{n(-1), n(0), f(1, 2), n(most), {}} {
			same(t, fmt.Sprint("At", i, x), show(curve.At(bad, x)), fails(api.ErrArg))
			same(t, fmt.Sprint("Solve", i, x), show(curve.Solve(bad, x)), fails(api.ErrArg))
			same(t, fmt.Sprint("Scale", i, x), show(curve.Scale(bad, x, x)), fails(api.ErrArg))
			same(t, fmt.Sprint("Cut", i, x), show(curve.Cut(bad, x)), fails(api.ErrArg))
			same(t, fmt.Sprint("Work", i, x), show(curve.Work(bad, x)), fails(api.ErrArg))
		}
	}
}

// Arguments are neither changed nor shared by a result: a result that is written over changes neither them nor the next result.
func TestNothingShared(t *testing.T) {
	type function func(a, b []api.Point) ([]api.Point, api.Errno)
	one := func(g func(c []api.Point) ([]api.Point, api.Errno)) function {
		return func(a, _ []api.Point) ([]api.Point, api.Errno) { return g(a) }
	}
	functions := []function{
		one(curve.Norm), one(curve.Inverse), one(curve.Convex), one(curve.Concave),
		func(a, _ []api.Point) ([]api.Point, api.Errno) { return curve.Scale(a, n(1), n(1)) },
		func(a, _ []api.Point) ([]api.Point, api.Errno) { return curve.Cut(a, end(a).X) },
		func(a, _ []api.Point) ([]api.Point, api.Errno) { return curve.Cut(a, f(1, 2)) },
		curve.Join, curve.Sum, curve.Series, curve.Compose, curve.Upper, curve.Lower,
	}
	for _, a := range slices.Concat(smallCurves(3), randomCurves(60)) {
		b := pts(1, 1, 2, 3)
		// With room behind them, an append would write into them.
		a, b = append(make([]api.Point, 0, 200), a...), append(make([]api.Point, 0, 200), b...)
		before, room := texts(a, b), texts(a[:200], b[:200])
		for i, g := range functions {
			first, e := g(a, b)
			want := show(first, e)
			for j := range first {
				first[j] = pt(n(77), n(77))
			}
			same(t, fmt.Sprint("arguments of ", i), texts(a, b), before)
			same(t, fmt.Sprint("room of ", i), texts(a[:200], b[:200]), room)
			same(t, fmt.Sprint("again ", i), show(g(a, b)), want)
		}
		for _, c := range append(ofOne(), ofTwo()...) {
			c.text(a, b)
			same(t, "arguments of "+c.name, texts(a[:200], b[:200]), room)
		}
	}
}
