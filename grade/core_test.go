package grade_test

import (
	"fmt"
	"slices"
	"testing"

	"trank/api"
	"trank/grade"
)

// P4.8, P4.9, P4.13: Implied, Core, Equal.

func without(p grade.Pattern, k int) grade.Pattern {
	return pat(p.N, slices.Concat(p.Rules[:k], p.Rules[k+1:])...)
}

// impliedOf is Implied by a list of all chains.
func impliedOf(p grade.Pattern, s api.Frac, k int) string {
	if !isDrawable(p, s) {
		return fails(api.ErrLoop)
	}
	u := p.Rules[k]
	w := heaviest(without(p, k), s, u.A, u.B)
	return ok(w != nil && w.Cmp(weightAt(u.C, u.D, s)) >= 0)
}

func TestImplied(t *testing.T) {
	count := map[string]int{}
	for i, p := range smallPatterns() {
		for _, s := range sizesOf(p)[i%3:] {
			for k := range p.Rules {
				want := impliedOf(p, s, k)
				count[want]++
				same(t, fmt.Sprint(p, s, k), show(grade.Implied(p, s, k)), want)
			}
		}
	}
	if len(count) != 3 || min(count["true"], count["false"], count[fails(api.ErrLoop)]) < 5000 {
		t.Error(count)
	}
}

func TestImpliedCases(t *testing.T) {
	p := glove()
	for k := range 3 {
		same(t, "glove", show(grade.Implied(p, n(7), k)), ok(false))
	}
	same(t, "by the ground", show(grade.Implied(pat(2, r(1, 0, 0, 0)), n(7), 0)), ok(true))
	same(t, "by the ground", show(grade.Implied(pat(2, r(1, 0, -14, 2)), n(7), 0)), ok(true))
	same(t, "hardly not by the ground", show(grade.Implied(pat(2, r(1, 0, -14, 2)), f(70001, 10000), 0)), ok(false))
	same(t, "no chain", show(grade.Implied(pat(2, r(0, 1, -1000, 0)), n(7), 0)), ok(false))
	same(t, "by a chain", show(grade.Implied(pat(3, r(2, 0, 24, 0), r(2, 1, 5, 1), r(1, 0, -2, 2)), n(7), 0)), ok(true))
	same(t, "by hardly a chain", show(grade.Implied(pat(3, r(2, 0, 25, 0), r(2, 1, 5, 1), r(1, 0, -2, 2)), n(7), 0)), ok(false))
	same(t, "a rule with itself", show(grade.Implied(pat(2, r(1, 1, -7, 1)), n(7), 0)), ok(true))
	same(t, "two equal rules, the first", show(grade.Implied(pat(2, r(1, 0, 9, 0), r(1, 0, 9, 0)), n(7), 0)), ok(true))
	same(t, "two equal rules, the second", show(grade.Implied(pat(2, r(1, 0, 9, 0), r(1, 0, 9, 0)), n(7), 1)), ok(true))
	for _, k := range []int{-1, 3, 64, biggest, -biggest - 1} {
		same(t, fmt.Sprint(k), show(grade.Implied(p, n(7), k)), fails(api.ErrArg))
		same(t, fmt.Sprint("ErrArg before ErrLoop ", k), show(grade.Implied(p, n(16), k)), fails(api.ErrArg))
	}
	same(t, "no rules", show(grade.Implied(pat(3), n(7), 0)), fails(api.ErrArg))
	same(t, "stuck", show(grade.Implied(stuck(), n(7), 0)), fails(api.ErrLoop))
	// Without its rule the pattern could be satisfied.
	same(t, "too large", show(grade.Implied(p, n(16), 2)), fails(api.ErrLoop))
}

// coreOf removes the rules as the chapter says.
func coreOf(p grade.Pattern, s api.Frac) string {
	if !isDrawable(p, s) {
		return fails(api.ErrLoop)
	}
	l := []int{}
	for k := len(p.Rules) - 1; k >= 0; k-- {
		if impliedOf(p, s, k) == ok(true) {
			p = without(p, k)
		} else {
			l = append(l, k)
		}
	}
	slices.Sort(l)
	return ok(l)
}

func TestCore(t *testing.T) {
	for i, p := range smallPatterns() {
		for _, s := range sizesOf(p)[i%3:] {
			same(t, fmt.Sprint(p, s), show(grade.Core(p, s)), coreOf(p, s))
		}
	}
	same(t, "no rules", show(grade.Core(pat(3), n(7))), ok([]int{}))
	same(t, "all of them", show(grade.Core(glove(), n(7))), ok([]int{0, 1, 2}))
	// Of two that imply each other the last one is removed.
	same(t, "two equal rules", show(grade.Core(pat(2, r(1, 0, 9, 0), r(1, 0, 9, 0)), n(7))), ok([]int{0}))
	same(t, "a circle", show(grade.Core(pat(3, r(0, 1, 0, 0), r(0, 2, 0, 0), r(1, 2, 0, 0), r(2, 1, 0, 0)), n(7))), ok([]int{0, 1}))
	same(t, "stuck", show(grade.Core(stuck(), n(7))), fails(api.ErrLoop))
}

// P4.13, of large patterns too.
func TestCoreIsEqual(t *testing.T) {
	count := 0
	for _, p := range slices.Concat(fewPatterns(2500), largePatterns(250)) {
		for _, s := range sizesOf(p) {
			l, e := grade.Core(p, s)
			if e != api.OK {
				continue
			}
			core := pat(p.N)
			for _, k := range l {
				core.Rules = append(core.Rules, p.Rules[k])
			}
			count += len(p.Rules) - len(l)
			same(t, fmt.Sprint("Equal ", p, s), show(grade.Equal(p, core, s)), ok(true))
			same(t, fmt.Sprint("Core ", core, s), fmt.Sprint(len(must[[]int](t)(grade.Core(core, s)))), fmt.Sprint(len(l)))
			for k := range core.Rules {
				same(t, fmt.Sprint("Implied ", core, s, k), show(grade.Implied(core, s, k)), ok(false))
			}
		}
	}
	if count < 10000 {
		t.Error(count)
	}
}

// Against all whole assignments up to a number that is large enough for these weights.
func TestEqual(t *testing.T) {
	d := dice()
	byFits := map[string]int{}
	var l []grade.Pattern
	var fits []string
	for range 300 {
		p := pat(2 + d.IntN(2))
		for range d.IntN(6) {
			p.Rules = append(p.Rules, r(d.IntN(p.N), d.IntN(p.N), between(d, -4, 1), between(d, -1, 1)))
		}
		l, fits = append(l, p), append(fits, fitting(p, n(1), 12))
		byFits[fits[len(fits)-1]]++
	}
	if len(byFits) < 50 {
		t.Error(len(byFits))
	}
	for i, p := range l {
		for j, q := range l {
			want := ok(fits[i] == fits[j])
			if !isDrawable(p, n(1)) || !isDrawable(q, n(1)) {
				want = fails(api.ErrLoop)
			}
			same(t, fmt.Sprint(p, q), show(grade.Equal(p, q, n(1))), want)
		}
	}
}

// fitting is a text of all whole assignments up to most that satisfy p.
func fitting(p grade.Pattern, s api.Frac, most int) string {
	text := []byte{byte('0' + p.N)}
	for _, x := range wholeAssignments(p.N, most) {
		if satisfies(p, s, x) {
			text = append(text, '1')
		} else {
			text = append(text, '0')
		}
	}
	return string(text)
}

func TestEqualCases(t *testing.T) {
	equal := func(p, q grade.Pattern, s api.Frac) string { return show(grade.Equal(p, q, s)) }
	p := glove()
	same(t, "itself", equal(p, p, n(7)), ok(true))
	turned := pat(3, p.Rules[2], p.Rules[0], p.Rules[1], r(2, 0, 0, 3), p.Rules[0])
	same(t, "other rules", equal(p, turned, n(7)), ok(true))
	same(t, "a rule more", equal(p, pat(3, append(turned.Rules, r(2, 0, 37, 0))...), n(7)), ok(false))
	same(t, "a rule less", equal(p, without(p, 1), n(7)), ok(false))
	same(t, "an unknown more", equal(pat(2), pat(3), n(7)), ok(false))
	same(t, "an unknown less", equal(pat(2), pat(1), n(7)), ok(false))
	same(t, "the ground", equal(pat(2), pat(2, r(1, 0, 0, 0)), n(7)), ok(true))
	same(t, "no rule, and a rule of 0", equal(pat(2), pat(2, r(0, 1, 0, 0)), n(7)), ok(false))
	same(t, "no rule, and a rule of 0", equal(pat(3), pat(3, r(1, 2, 0, 0)), n(7)), ok(false))
	// At one size, and not at others.
	a, b := pat(2, r(1, 0, 0, 2)), pat(2, r(1, 0, 7, 1))
	same(t, "at 7", equal(a, b, n(7)), ok(true))
	same(t, "hardly at 7", equal(a, b, f(70001, 10000)), ok(false))
	same(t, "hardly at 7", equal(a, b, f(69999, 10000)), ok(false))
	same(t, "only farther gaps differ", equal(pat(3, r(1, 0, 5, 0), r(0, 2, -9, 0)), pat(3, r(1, 0, 5, 0), r(0, 2, -9, 0), r(1, 2, -4, 0)), n(7)), ok(true))
	same(t, "a gap between others", equal(pat(3, r(1, 0, 5, 0), r(0, 2, -9, 0)), pat(3, r(1, 0, 5, 0), r(0, 2, -9, 0), r(1, 2, -3, 0)), n(7)), ok(false))
	same(t, "stuck first", equal(stuck(), p, n(7)), fails(api.ErrLoop))
	same(t, "stuck second", equal(p, stuck(), n(7)), fails(api.ErrLoop))
	same(t, "stuck with another N", equal(pat(5), stuck(), n(7)), fails(api.ErrLoop))
	same(t, "both stuck", equal(stuck(), stuck(), n(7)), fails(api.ErrLoop))
	same(t, "no pattern after a stuck one", equal(stuck(), pat(0), n(7)), fails(api.ErrArg))
	same(t, "no pattern before a stuck one", equal(pat(0), stuck(), n(7)), fails(api.ErrArg))
}
