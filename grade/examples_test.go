package grade_test

import (
	"slices"
	"testing"

	"trank/api"
	"trank/grade"
)

// The numbered examples of the chapter.

func TestExample1(t *testing.T) {
	p := glove()
	same(t, "Least", show(grade.Least(p, n(7))), ok(whole(0, 24, 36)))
	x := whole(0, 24, 60)
	same(t, "x[2] is 60", show(grade.Fits(p, n(7), x)), ok(true))
	x[2] = n(61)
	same(t, "x[2] is 61", show(grade.Fits(p, n(7), x)), ok(false))
	same(t, "Sizes", show2(grade.Sizes(p)), ok2(n(0), n(15)))
	low, high, e := grade.Ends(p)
	if !slices.ContainsFunc([][]int{{0, 2, 1}, {2, 1, 0}, {1, 0, 2}}, func(l []int) bool { return slices.Equal(l, high) }) || len(low) != 0 || e != api.OK {
		t.Error("Ends", low, high, e)
	}
}

func TestExample2(t *testing.T) {
	same(t, "Greatest", show(grade.Greatest(glove(), n(7), n(100))), ok(whole(0, 48, 60)))
}

func TestExample3(t *testing.T) {
	p := glove()
	same(t, "Gap(2, 0)", show2(grade.Gap(p, n(7), 2, 0)), ok2(n(36), true))
	same(t, "Gap(0, 2)", show2(grade.Gap(p, n(7), 0, 2)), ok2(n(-60), true))
	same(t, "Tight", show(grade.Tight(p, n(7))), ok([]int{0, 1}))
}

func TestExample4(t *testing.T) {
	low, high := r(0, 0, 3, -1), r(0, 0, -3, 1)
	same(t, "at most 3", show2(grade.Sizes(pat(1, high))), ok2(n(0), n(3)))
	same(t, "at least 3", show2(grade.Sizes(pat(1, low))), ok2(n(3), n(40)))
	p := pat(1, high, r(0, 0, 4, -1))
	same(t, "Sizes", show2(grade.Sizes(p)), fails(api.ErrLoop))
	l, e := grade.Conflict(p)
	slices.SortFunc(l, slices.Compare)
	same(t, "Conflict", show(l, e), ok([][]int{{0}, {1}}))
}

func TestExample5(t *testing.T) {
	p := pat(2, r(1, 0, 5, 0), r(1, 0, 3, 0))
	for _, s := range someSizes() {
		same(t, "Implied 1", show(grade.Implied(p, s, 1)), ok(true))
		same(t, "Implied 0", show(grade.Implied(p, s, 0)), ok(false))
		same(t, "Core", show(grade.Core(p, s)), ok([]int{0}))
	}
}

// Example 4 of the document.
func TestExampleOfSizes(t *testing.T) {
	same(t, "Sizes", show2(grade.Sizes(pat(3, r(1, 0, 10, 2), r(2, 1, 5, 1), r(0, 2, -60, 0)))), ok2(n(0), n(15)))
}
