package grade_test

import (
	"fmt"
	"slices"
	"testing"

	"trank/api"
	"trank/grade"
)

// What all functions have in common.

// P4.1 to P4.9: ErrArg for what is no pattern or no size.
func TestInvalidPatterns(t *testing.T) {
	for i, p := range badPatterns() {
		for _, c := range append(ofSize(), ofPattern()...) {
			for _, s := range append(someSizes(), api.Frac{}) {
				same(t, fmt.Sprint(c.name, i, s), c.text(p, s), fails(api.ErrArg))
			}
		}
	}
}

// ErrArg before every other error.
func TestInvalidSizes(t *testing.T) {
	for _, p := range []grade.Pattern{glove(), stuck(), pat(1), ladder(16), crowd(1000, 100), badPatterns()[3]} {
		for _, s := range badSizes() {
			for _, c := range ofSize() {
				same(t, fmt.Sprint(c.name, p, s), c.text(p, s), fails(api.ErrArg))
			}
		}
	}
}

func TestValidSizes(t *testing.T) {
	for _, s := range append(someSizes(), f(1, 9973), f(398919, 9973), n(39), f(9999, 10000)) {
		for _, c := range ofSize() {
			for _, p := range []grade.Pattern{pat(1, r(0, 0, 0, 0)), stuck()} {
				if have := c.text(p, s); have == fails(api.ErrArg) {
					t.Error(c.name, p, s, have)
				}
			}
		}
	}
}

// roomy has room behind the rules: an append would write into it.
func roomy(p grade.Pattern) grade.Pattern {
	return pat(p.N, append(make([]grade.Rule, 0, 200), p.Rules...)...)
}

// Arguments are neither changed nor shared by a result: a result that is written over changes neither them nor the next result.
func TestNothingShared(t *testing.T) {
	for i, p := range slices.Concat(special(), fewPatterns(300), largePatterns(40)) {
		p = roomy(p)
		s := sizesOf(p)[i%10]
		x := append(make([]api.Frac, 0, 50), zeros(p)...)
		before := fmt.Sprint(p, p.Rules[:cap(p.Rules)], x[:50])
		fractions := []func() ([]api.Frac, api.Errno){
			func() ([]api.Frac, api.Errno) { return grade.Slack(p, s, x) },
			func() ([]api.Frac, api.Errno) { return grade.Least(p, s) },
			func() ([]api.Frac, api.Errno) { return grade.Greatest(p, s, n(500)) },
		}
		for _, g := range fractions {
			writeOver(t, g, f(77, 7))
		}
		numbers := []func() ([]int, api.Errno){
			func() ([]int, api.Errno) { return grade.Loop(p, s) },
			func() ([]int, api.Errno) { l, _, e := grade.Ends(p); return l, e },
			func() ([]int, api.Errno) { _, l, e := grade.Ends(p); return l, e },
			func() ([]int, api.Errno) { return grade.Tight(p, s) },
			func() ([]int, api.Errno) { return grade.Chain(p, s, p.N-1) },
			func() ([]int, api.Errno) { return grade.Core(p, s) },
		}
		for _, g := range numbers {
			writeOver(t, g, 77)
		}
		writeOver(t, func() ([][]int, api.Errno) { return grade.Conflict(p) }, []int{77})
		for _, c := range append(ofSize(), ofPattern()...) {
			first := c.text(p, s)
			same(t, "again "+c.name, c.text(p, s), first)
		}
		same(t, "arguments", fmt.Sprint(p, p.Rules[:cap(p.Rules)], x[:50]), before)
	}
}

func writeOver[T any](t *testing.T, g func() ([]T, api.Errno), x T) {
	t.Helper()
	first, e := g()
	want := show(first, e)
	for i := range first[:cap(first)] {
		first[:cap(first)][i] = x
	}
	same(t, "again", show(g()), want)
}

// Two loops of one result share no memory: one that is written over, and over its end, leaves the other one as it is.
func TestLoopsApart(t *testing.T) {
	for _, p := range slices.Concat(special(), fewPatterns(500)) {
		if l, _ := grade.Conflict(p); len(l) == 2 {
			checkApart(t, l[0], l[1])
			checkApart(t, l[1], l[0])
		}
		if low, high, _ := grade.Ends(p); len(low) > 0 && len(high) > 0 {
			checkApart(t, low, high)
			checkApart(t, high, low)
		}
	}
}

func checkApart(t *testing.T, a, b []int) {
	t.Helper()
	want := fmt.Sprint(b)
	for i := range a[:cap(a)] {
		a[:cap(a)][i] = 77
	}
	same(t, "apart", fmt.Sprint(b), want)
}

// A nil slice and an empty one are the same as arguments.
func TestNilAndEmpty(t *testing.T) {
	for _, c := range append(ofSize(), ofPattern()...) {
		a := c.text(grade.Pattern{N: 3}, n(7))
		same(t, c.name, c.text(grade.Pattern{N: 3, Rules: []grade.Rule{}}, n(7)), a)
	}
}
