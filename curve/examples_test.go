package curve_test

import (
	"testing"

	"trank/api"
	"trank/curve"
)

// The numbered examples of the chapter.

func ok[T any](x T) string { return show(x, api.OK) }

func TestExample1(t *testing.T) {
	c := pts(2, 1, 4, 4)
	same(t, "Slopes", show(curve.Slopes(c)), ok([]api.Frac{f(1, 2), f(3, 2)}))
	same(t, "At 3", show(curve.At(c, n(3))), ok(f(5, 2)))
	same(t, "Solve 5/2", show(curve.Solve(c, f(5, 2))), ok(n(3)))
	same(t, "Work 3", show(curve.Work(c, n(3))), ok(f(11, 4)))
	same(t, "At 5", show(curve.At(c, n(5))), fails(api.ErrRange))
}

func TestExample2(t *testing.T) {
	a, b := pts(4, 2), pts(2, 2)
	same(t, "Sum", show(curve.Sum(a, b)), ok(pts(2, 3)))
	same(t, "Inverse(a)", show(curve.Inverse(a)), ok(pts(2, 4)))
	same(t, "Inverse(b)", show(curve.Inverse(b)), ok(pts(2, 2)))
	same(t, "Sum of both", show(curve.Sum(pts(2, 4), pts(2, 2))), ok(pts(2, 6)))
	same(t, "Series", show(curve.Series(a, b)), ok(pts(6, 2)))
}

func TestExample3(t *testing.T) {
	a, c := pts(4, 2), pts(2, 1, 4, 4)
	same(t, "no crossing", show(curve.Crossings(a, c)), ok([]api.Frac{}))
	same(t, "Upper = c", show(curve.Upper(a, c)), ok(c))
	same(t, "Lower = a", show(curve.Lower(a, c)), ok(a))
	a = pts(4, 3)
	same(t, "Upper", show(curve.Upper(a, c)), ok([]api.Point{pt(n(0), n(0)), pt(f(8, 3), n(2)), pt(n(4), n(4))}))
	same(t, "Lower", show(curve.Lower(a, c)), ok([]api.Point{pt(n(0), n(0)), pt(n(2), n(1)), pt(f(8, 3), n(2)), pt(n(4), n(3))}))
	same(t, "Crossings", show(curve.Crossings(a, c)), ok([]api.Frac{f(8, 3)}))
}

func TestExample4(t *testing.T) {
	same(t, "Compose", show(curve.Compose(pts(2, 1, 4, 4), pts(2, 2))), ok(pts(2, 1)))
}

func TestExample5(t *testing.T) {
	c := pts(1, 2, 2, 3, 3, 6)
	same(t, "Convex", show(curve.Convex(c)), ok(pts(2, 3, 3, 6)))
	same(t, "Concave", show(curve.Concave(c)), ok(pts(3, 6)))
}

func TestExample6(t *testing.T) {
	same(t, "Isotone", show(curve.Isotone([]int{3, 1, 2, 5, 4})), ok([]api.Frac{n(2), n(2), n(2), f(9, 2), f(9, 2)}))
	same(t, "Isotone", show(curve.Isotone([]int{1, 1})), ok([]api.Frac{n(1), n(1)}))
}

// Example 2 of the document.
func TestExampleOfSeries(t *testing.T) {
	same(t, "Series", show(curve.Series(pts(4, 2), pts(2, 2))), ok(pts(6, 2)))
}
