package grade_test

import (
	"fmt"
	"math/big"
	"slices"
	"testing"

	"trank/api"
	"trank/grade"
)

// P4.4, P4.5, P4.6, P4.11, P4.12: Loop, Sizes, Ends, Conflict.

// checkLoop checks that e is OK if and only if there should be a loop, and that it is one whose weight is above 0.
func checkLoop(t *testing.T, p grade.Pattern, s api.Frac, want bool) {
	t.Helper()
	l, e := grade.Loop(p, s)
	if !want {
		same(t, fmt.Sprint(p, s), show(l, e), fails(api.ErrNone))
	} else if e != api.OK || !isLoop(p, l) || weightOf(p, l, s).Sign() <= 0 {
		t.Error(p, s, l, e)
	}
}

func TestLoop(t *testing.T) {
	count := map[bool]int{}
	for _, p := range smallPatterns() {
		for _, s := range sizesOf(p) {
			want := !isDrawable(p, s)
			count[want]++
			checkLoop(t, p, s, want)
		}
	}
	if count[true] < 5000 || count[false] < 5000 {
		t.Error(count)
	}
}

func TestLoopCases(t *testing.T) {
	same(t, "weight 0", show(grade.Loop(glove(), n(15))), fails(api.ErrNone))
	same(t, "no rules", show(grade.Loop(pat(16), n(15))), fails(api.ErrNone))
	same(t, "one unknown", show(grade.Loop(pat(1), n(15))), fails(api.ErrNone))
	same(t, "itself", show(grade.Loop(pat(3, r(2, 2, 0, 0), r(2, 2, 1, 0)), n(15))), ok([]int{1}))
	checkLoop(t, glove(), f(150001, 10000), true)
	// Loops with ground rules.
	for _, l := range [][]int{must[[]int](t)(grade.Loop(pat(2, r(0, 1, 1, 0)), n(0))), must[[]int](t)(grade.Loop(pat(2, r(0, 1, -7, 1)), n(8)))} {
		if slices.Sort(l); !slices.Equal(l, []int{-1, 0}) {
			t.Error(l)
		}
	}
	// The rule of the other unknowns' loop, far from 0.
	checkLoop(t, pat(16, r(14, 15, 3, 0), r(15, 14, -2, 0)), n(0), true)
}

// Of large patterns: each loop is one, and where there is none, Least fits.
func TestLoopLarge(t *testing.T) {
	count := map[api.Errno]int{}
	for _, p := range largePatterns(400) {
		for _, s := range sizesOf(p) {
			least, e := grade.Least(p, s)
			count[e]++
			checkLoop(t, p, s, e == api.ErrLoop)
			if e == api.OK && !satisfies(p, s, least) || e != api.OK && e != api.ErrLoop {
				t.Error(p, s, least, e)
			}
		}
	}
	if count[api.OK] < 1000 || count[api.ErrLoop] < 1000 {
		t.Error(count)
	}
}

// Weights that grow with each round, were a loop run round again and again.
func TestLoopHeavy(t *testing.T) {
	for _, s := range someSizes() {
		for _, p := range []grade.Pattern{crowd(1000, 100), full(1000, 100), full(999, 99), pat(2, r(1, 0, 1000, 100), r(0, 1, 1000, 100))} {
			checkLoop(t, p, s, true)
			same(t, "Least", show(grade.Least(p, s)), fails(api.ErrLoop))
			same(t, "Sizes", show2(grade.Sizes(p)), fails(api.ErrLoop))
		}
		checkLoop(t, full(-1000, -100), s, false)
	}
}

// full has all rules between the unknowns of each of four groups.
func full(c, d int) grade.Pattern {
	p := pat(16)
	for i := range 64 {
		p.Rules = append(p.Rules, r(i/16*4+i/4%4, i/16*4+i%4, c, d))
	}
	return p
}

// The search for the ends of Sizes needs few steps because each goes by a loop with the greatest mean weight.
func TestWorst(t *testing.T) {
	mean := func(p grade.Pattern, l []int, s api.Frac) *big.Rat {
		return new(big.Rat).Quo(weightOf(p, l, s), big.NewRat(int64(len(l)), 1))
	}
	for _, p := range smallPatterns() {
		for _, s := range someSizes() {
			most := new(big.Rat)
			for _, l := range loopsOf(p) {
				if m := mean(p, l, s); m.Cmp(most) > 0 {
					most = m
				}
			}
			worst := grade.Worst(p, s)
			if most.Sign() == 0 && worst != nil || most.Sign() > 0 && (!isLoop(p, worst) || mean(p, worst, s).Cmp(most) != 0) {
				t.Error(p, s, worst, most)
			}
		}
	}
}

// sizesByLoops is Sizes by a list of all loops.
func sizesByLoops(p grade.Pattern) string {
	lo, hi, some := allowed(p, loopsOf(p))
	if !some {
		return fails(api.ErrLoop)
	}
	low, _ := fracOf(lo)
	high, _ := fracOf(hi)
	return ok2(low, high)
}

func TestSizes(t *testing.T) {
	for _, p := range smallPatterns() {
		same(t, fmt.Sprint(p), show2(grade.Sizes(p)), sizesByLoops(p))
	}
}

func TestSizesCases(t *testing.T) {
	one := func(rules ...grade.Rule) string { return show2(grade.Sizes(pat(1, rules...))) }
	same(t, "no rules", one(), ok2(n(0), n(40)))
	same(t, "at most 0", one(r(0, 0, 0, 1)), ok2(n(0), n(0)))
	same(t, "at least 40", one(r(0, 0, 40, -1)), ok2(n(40), n(40)))
	same(t, "at most 40", one(r(0, 0, -40, 1)), ok2(n(0), n(40)))
	same(t, "at least 0", one(r(0, 0, 0, -1)), ok2(n(0), n(40)))
	same(t, "above 40", one(r(0, 0, 41, -1)), fails(api.ErrLoop))
	same(t, "hardly above 40", one(r(0, 0, 1000, -24), r(0, 0, 961, -24)), fails(api.ErrLoop))
	same(t, "below 0", one(r(0, 0, 1, 1)), fails(api.ErrLoop))
	same(t, "never", one(r(0, 0, 1, 0)), fails(api.ErrLoop))
	same(t, "always", one(r(0, 0, 0, 0), r(0, 0, -1, 0)), ok2(n(0), n(40)))
	same(t, "one size", one(r(0, 0, -1, 3), r(0, 0, 1, -3)), ok2(f(1, 3), f(1, 3)))
	same(t, "hardly none", one(r(0, 0, -98, 99), r(0, 0, 99, -100)), fails(api.ErrLoop))
	same(t, "hardly some", one(r(0, 0, -99, 100), r(0, 0, 98, -99)), ok2(f(98, 99), f(99, 100)))
	same(t, "Den 1600, at most", show2(grade.Sizes(ring(-7, 100))), ok2(n(0), f(7, 1600)))
	same(t, "Den 1600, at least", show2(grade.Sizes(ring(7, -100))), ok2(f(7, 1600), n(40)))
	same(t, "Den 1600, at least", show2(grade.Sizes(ring(999, -100))), ok2(f(999, 1600), n(40)))
	same(t, "Ends of stuck", show2(grade.Ends(stuck())), fails(api.ErrLoop))
	same(t, "Ends of no rules", show2(grade.Ends(pat(5))), ok2([]int{}, []int{}))
}

// P4.5, P4.11, P4.12, of large patterns too: lo and hi can be drawn, and the loops rule out what lies beyond them.
func TestEnds(t *testing.T) {
	count := map[string]int{}
	for _, p := range slices.Concat(smallPatterns(), largePatterns(600)) {
		lo, hi, e := grade.Sizes(p)
		low, high, e2 := grade.Ends(p)
		if e != e2 || e != api.OK && e != api.ErrLoop {
			t.Error(p, e, e2)
		}
		if e != api.OK {
			same(t, fmt.Sprint(p), show2(low, high, e2), fails(api.ErrLoop))
			continue
		}
		if rat(lo).Cmp(rat(hi)) > 0 || lo.Num < 0 || lo.Den > 1600 || hi.Den > 1600 || rat(hi).Cmp(big.NewRat(40, 1)) > 0 {
			t.Error(p, lo, hi)
		}
		for _, s := range []api.Frac{lo, hi} {
			if !satisfies(p, s, must[[]api.Frac](t)(grade.Least(p, s))) {
				t.Error(p, s)
			}
		}
		count["low"] += checkEnd(t, p, lo, low, n(0), -1)
		count["high"] += checkEnd(t, p, hi, high, n(40), 1)
	}
	if count["low"] < 800 || count["high"] < 800 {
		t.Error(count)
	}
}

// checkEnd returns 1 if there is a loop; its d has the given sign.
func checkEnd(t *testing.T, p grade.Pattern, at api.Frac, l []int, last api.Frac, sign int) int {
	t.Helper()
	if at == last {
		if len(l) > 0 {
			t.Error(p, at, l)
		}
		return 0
	}
	if _, d := sumOf(p, l); !isLoop(p, l) || weightOf(p, l, at).Sign() != 0 || d*sign <= 0 {
		t.Error(p, at, l)
	}
	return 1
}

// P4.11: Least is OK where Loop returns ErrNone, and that is from lo to hi.
func TestSizesAndLeast(t *testing.T) {
	for _, p := range slices.Concat(smallPatterns(), largePatterns(400)) {
		lo, hi, e := grade.Sizes(p)
		for _, s := range sizesOf(p) {
			want := e == api.OK && rat(s).Cmp(rat(lo)) >= 0 && rat(s).Cmp(rat(hi)) <= 0
			_, e1 := grade.Least(p, s)
			_, e2 := grade.Loop(p, s)
			if (e1 == api.OK) != want || (e2 == api.ErrNone) != want {
				t.Error(p, s, lo, hi, e, e1, e2)
			}
		}
	}
}

// P4.6, P4.12.
func TestConflict(t *testing.T) {
	count := map[int]int{}
	for _, p := range slices.Concat(smallPatterns(), largePatterns(600)) {
		l, e := grade.Conflict(p)
		_, _, e2 := grade.Sizes(p)
		if e2 == api.OK {
			same(t, fmt.Sprint(p), show(l, e), fails(api.ErrNone))
			continue
		}
		count[len(l)]++
		_, _, some := allowed(p, l)
		if e != api.OK || e2 != api.ErrLoop || len(l) < 1 || len(l) > 2 || some {
			t.Error(p, l, e, e2)
		}
		for _, x := range l {
			if !isLoop(p, x) {
				t.Error(p, x)
			}
		}
	}
	if len(count) != 2 || count[1] < 300 || count[2] < 100 {
		t.Error(count)
	}
	same(t, "no rules", show(grade.Conflict(pat(3))), fails(api.ErrNone))
	same(t, "one size", show(grade.Conflict(pat(1, r(0, 0, -1, 3), r(0, 0, 1, -3)))), fails(api.ErrNone))
	same(t, "stuck", show(grade.Conflict(stuck())), ok([][]int{{0}}))
	same(t, "above 40", show(grade.Conflict(pat(1, r(0, 0, 41, -1)))), ok([][]int{{0}}))
}
