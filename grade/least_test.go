package grade_test

import (
	"fmt"
	"math/big"
	"slices"
	"testing"

	"trank/api"
	"trank/grade"
)

// P4.2, P4.3, P4.7, P4.10, P4.14: Least, Greatest, Gap, Tight, Chain.

// leastOf is Least by a list of all chains.
func leastOf(p grade.Pattern, s api.Frac) string {
	if !isDrawable(p, s) {
		return fails(api.ErrLoop)
	}
	var l []api.Frac
	for i := range p.N {
		x, _ := fracOf(heaviest(p, s, i, 0))
		l = append(l, x)
	}
	return ok(l)
}

func TestLeast(t *testing.T) {
	same(t, "no rules", show(grade.Least(pat(3), n(40))), ok(whole(0, 0, 0)))
	same(t, "below zero", show(grade.Least(pat(2, r(1, 0, -5, 0)), n(40))), ok(whole(0, 0)))
	same(t, "half", show(grade.Least(glove(), f(1, 2))), ok([]api.Frac{n(0), n(11), f(33, 2)}))
	same(t, "at the end", show(grade.Least(glove(), n(15))), ok(whole(0, 40, 60)))
	same(t, "beyond it", show(grade.Least(glove(), f(150001, 10000))), fails(api.ErrLoop))
	for _, p := range smallPatterns() {
		for _, s := range sizesOf(p) {
			same(t, fmt.Sprint(p, s), show(grade.Least(p, s)), leastOf(p, s))
		}
	}
}

// The heaviest chains of all: each element is representable.
func TestLeastLargest(t *testing.T) {
	var want []api.Frac
	for i := range 16 {
		want = append(want, n(5000*i))
	}
	same(t, "at 40", show(grade.Least(ladder(16), n(40))), ok(want))
	s := f(399989, 10000)
	for i := range want {
		want[i], _ = fracOf(big.NewRat(int64(i)*(1000*10000+100*399989), 10000))
	}
	same(t, "below 40", show(grade.Least(ladder(16), s)), ok(want))
	same(t, "Gap(0, 15)", show2(grade.Gap(ladder(16), s, 0, 15)), ok2(api.Frac{}, false))
	down := pat(16)
	for i := range 15 {
		down.Rules = append(down.Rules, r(i, i+1, -1000, -100))
	}
	least, _ := fracOf(new(big.Rat).Neg(rat(want[15])))
	same(t, "Gap down", show2(grade.Gap(down, s, 0, 15)), ok2(least, true))
	same(t, "Gap back", show2(grade.Gap(down, s, 15, 0)), ok2(n(0), true))
}

// P4.10: against all whole assignments; with whole weights the least elements and the greatest ones are whole.
func TestLeastAndGreatestOfAll(t *testing.T) {
	for _, p := range smallPatterns() {
		for _, s := range whole(0, 1, 2, 15) {
			const most = 5
			var low, high []api.Frac
			for _, x := range wholeAssignments(p.N, most) {
				if !satisfies(p, s, x) {
					continue
				}
				if low == nil {
					low, high = slices.Clone(x), slices.Clone(x)
				}
				for i := range x {
					low[i].Num, high[i].Num = min(low[i].Num, x[i].Num), max(high[i].Num, x[i].Num)
				}
			}
			least, e := grade.Least(p, s)
			greatest, e2 := grade.Greatest(p, s, n(most))
			if low == nil && (e != api.ErrLoop && e2 != api.ErrShort || e == api.ErrLoop && e2 != api.ErrLoop) {
				t.Error(p, s, least, e, greatest, e2)
			}
			if low != nil {
				same(t, fmt.Sprint("Least ", p, s), show(least, e), ok(low))
				same(t, fmt.Sprint("Greatest ", p, s), show(greatest, e2), ok(high))
			}
		}
	}
}

// P4.10, of large patterns too: it satisfies p, and the chains prove that nothing is less.
func TestLeastProved(t *testing.T) {
	for _, p := range slices.Concat(smallPatterns(), largePatterns(400)) {
		for _, s := range sizesOf(p) {
			least, e := grade.Least(p, s)
			if e != api.OK {
				continue
			}
			if !satisfies(p, s, least) || !must[bool](t)(grade.Fits(p, s, least)) {
				t.Error("does not fit", p, s, least)
			}
			for i := range p.N {
				l := must[[]int](t)(grade.Chain(p, s, i))
				if !isChain(p, l, i, 0) || weightOf(p, l, s).Cmp(rat(least[i])) != 0 || i == 0 && len(l) > 0 {
					t.Error("Chain", p, s, i, l, least[i])
				}
			}
		}
	}
}

// Where there is none, Chain and the others tell, for each index.
func TestChainErrors(t *testing.T) {
	for _, i := range []int{-1, 2, 16, biggest, -biggest - 1} {
		same(t, fmt.Sprint("Chain ", i), show(grade.Chain(pat(2), n(7), i)), fails(api.ErrArg))
		same(t, fmt.Sprint("Chain of stuck ", i), show(grade.Chain(stuck(), n(7), i)), fails(api.ErrArg))
	}
	same(t, "of stuck", show(grade.Chain(stuck(), n(7), 0)), fails(api.ErrLoop))
	same(t, "of stuck", show(grade.Chain(stuck(), n(7), 1)), fails(api.ErrLoop))
	same(t, "of 0", show(grade.Chain(glove(), n(7), 0)), ok([]int{}))
	same(t, "of 2", show(grade.Chain(glove(), n(7), 2)), ok([]int{1, 0}))
	same(t, "of the ground", show(grade.Chain(pat(4), n(7), 3)), ok([]int{-3}))
	same(t, "of the ground, as the rule is less", show(grade.Chain(pat(2, r(1, 0, -1, 0)), n(7), 1)), ok([]int{-1}))
}

// greatestOf is Greatest by a list of all chains.
func greatestOf(p grade.Pattern, s, most api.Frac) string {
	if !isDrawable(p, s) {
		return fails(api.ErrLoop)
	}
	isRange := false
	var l []api.Frac
	for i := range p.N {
		if heaviest(p, s, i, 0).Cmp(rat(most)) > 0 {
			return fails(api.ErrShort)
		}
		bound := rat(most)
		for j := range p.N {
			if w := heaviest(p, s, j, i); w != nil {
				bound = lesser(bound, w.Sub(rat(most), w))
			}
		}
		if w := heaviest(p, s, 0, i); w != nil {
			bound = lesser(bound, w.Neg(w))
		}
		x, isFrac := fracOf(bound)
		isRange = isRange || !isFrac
		l = append(l, x)
	}
	if isRange {
		return fails(api.ErrRange)
	}
	return ok(l)
}

func lesser(a, b *big.Rat) *big.Rat {
	if a.Cmp(b) < 0 {
		return a
	}
	return b
}

func mosts() []api.Frac {
	return []api.Frac{n(0), f(1, 100), n(1), n(36), f(7199, 100), n(60), n(100), f(301, 3), n(1000), f(12345678, 97), n(1000000), f(99999999, 100)}
}

func TestGreatest(t *testing.T) {
	count := map[string]int{}
	for _, p := range smallPatterns() {
		for i, s := range sizesOf(p) {
			// Of tiny patterns only some of all pairs.
			for j, most := range mosts() {
				if (i+j)%5 == 0 || p.N > 2 && (i+j)%2 == 0 {
					want := greatestOf(p, s, most)
					count[want]++
					same(t, fmt.Sprint(p, s, most), show(grade.Greatest(p, s, most)), want)
				}
			}
		}
	}
	for _, e := range []api.Errno{api.ErrLoop, api.ErrShort, api.ErrRange} {
		if count[fails(e)] < 500 {
			t.Error(e, count[fails(e)])
		}
	}
}

func TestGreatestCases(t *testing.T) {
	p := glove()
	same(t, "as much as Least", show(grade.Greatest(p, n(7), n(36))), ok(whole(0, 24, 36)))
	same(t, "hardly less", show(grade.Greatest(p, n(7), f(3599, 100))), fails(api.ErrShort))
	same(t, "nothing", show(grade.Greatest(pat(3), n(7), n(0))), ok(whole(0, 0, 0)))
	same(t, "no rules", show(grade.Greatest(pat(3), n(7), n(1000000))), ok(whole(0, 1000000, 1000000)))
	same(t, "ErrLoop before ErrShort", show(grade.Greatest(pat(3, r(1, 0, 9, 0), r(2, 2, 1, 0)), n(7), n(0))), fails(api.ErrLoop))
	// Unknown 2 is at most most - s.
	s, most := f(1, 9999), f(99999999, 100)
	below := pat(3, r(1, 2, 0, 1))
	same(t, "not representable", show(grade.Greatest(below, s, most)), fails(api.ErrRange))
	same(t, "representable", show(grade.Greatest(below, f(1, 2), most)), ok([]api.Frac{n(0), most, f(99999949, 100)}))
	// Another rule leaves less than what is not representable.
	below.Rules = append(below.Rules, r(0, 2, -5, 0))
	same(t, "a bound that does not count", show(grade.Greatest(below, s, most)), ok([]api.Frac{n(0), most, n(5)}))
	// The sum of both parts is a fraction with a smaller Den.
	same(t, "in lowest terms", show(grade.Greatest(pat(2, r(0, 0, 0, 0), r(0, 1, 0, -1)), f(7, 2), f(9, 2))), ok([]api.Frac{n(0), f(7, 2)}))
}

// Of large patterns: the result fits, and each element has its bound.
func TestGreatestLarge(t *testing.T) {
	for k, p := range largePatterns(100) {
		for _, s := range sizesOf(p)[k%5+5:] {
			least, e := grade.Least(p, s)
			for _, most := range []api.Frac{n(10), n(500), f(100001, 100)} {
				x, e2 := grade.Greatest(p, s, most)
				if e != api.OK || slices.ContainsFunc(least, func(y api.Frac) bool { return rat(y).Cmp(rat(most)) > 0 }) {
					if e != api.OK && e2 != e || e == api.OK && e2 != api.ErrShort || x != nil {
						t.Error(p, s, most, x, e2)
					}
					continue
				}
				checkGreatest(t, p, s, most, must[[]api.Frac](t)(x, e2))
			}
		}
	}
}

func checkGreatest(t *testing.T, p grade.Pattern, s, most api.Frac, x []api.Frac) {
	t.Helper()
	if !satisfies(p, s, x) {
		t.Error("does not fit", p, s, most, x)
	}
	for i := range x {
		to, _ := relaxed(p, s, i)
		bound := rat(most)
		for j, w := range to {
			if w != nil {
				bound = lesser(bound, new(big.Rat).Sub(rat(most), w))
			}
			if w != nil && j == 0 {
				bound = lesser(bound, new(big.Rat).Neg(w))
			}
		}
		if bound.Cmp(rat(x[i])) != 0 {
			t.Error(p, s, most, i, x[i], bound)
		}
	}
}

func TestInvalidMosts(t *testing.T) {
	for _, most := range append(badFracs(), n(-1), f(-1, 100), n(1000001), f(100000001, 100), f(1, 101), n(api.MaxPart), f(1, api.MaxPart), n(-api.MaxPart)) {
		same(t, fmt.Sprint(most), show(grade.Greatest(glove(), n(7), most)), fails(api.ErrArg))
		same(t, fmt.Sprint(most), show(grade.Greatest(stuck(), n(7), most)), fails(api.ErrArg))
		same(t, fmt.Sprint(most), show(grade.Greatest(ladder(16), n(40), most)), fails(api.ErrArg))
	}
	for _, most := range mosts() {
		if _, e := grade.Greatest(pat(1), n(7), most); e != api.OK {
			t.Error(most, e)
		}
	}
}

// gapOf is Gap by a list of all chains.
func gapOf(p grade.Pattern, s api.Frac, a, b int) string {
	if !isDrawable(p, s) {
		return fails(api.ErrLoop)
	}
	w := heaviest(p, s, a, b)
	if w == nil {
		return ok2(api.Frac{}, false)
	}
	g, _ := fracOf(w)
	return ok2(g, true)
}

func TestGap(t *testing.T) {
	for k, p := range smallPatterns() {
		for _, s := range sizesOf(p)[k%3:] {
			for i := range p.N * p.N {
				a, b := i/p.N, i%p.N
				same(t, fmt.Sprint(p, s, a, b), show2(grade.Gap(p, s, a, b)), gapOf(p, s, a, b))
			}
		}
	}
}

func TestGapCases(t *testing.T) {
	p := glove()
	same(t, "itself", show2(grade.Gap(p, n(7), 1, 1)), ok2(n(0), true))
	same(t, "itself, with a light loop", show2(grade.Gap(pat(1, r(0, 0, -3, 0)), n(7), 0, 0)), ok2(n(0), true))
	same(t, "down", show2(grade.Gap(p, n(7), 0, 1)), ok2(n(-48), true))
	same(t, "over the ground", show2(grade.Gap(pat(3, r(0, 2, -9, 0)), n(7), 1, 2)), ok2(n(-9), true))
	same(t, "none", show2(grade.Gap(pat(3), n(7), 0, 1)), ok2(api.Frac{}, false))
	same(t, "none", show2(grade.Gap(pat(3), n(7), 1, 2)), ok2(api.Frac{}, false))
	same(t, "the ground", show2(grade.Gap(pat(3), n(7), 2, 0)), ok2(n(0), true))
	// Gaps may be far below zero: element 0 need not be zero then.
	same(t, "between others", show2(grade.Gap(pat(3, r(1, 2, -700, 0)), n(7), 1, 2)), ok2(n(-700), true))
	for _, i := range []int{-1, 3, 16, biggest, -biggest - 1} {
		same(t, fmt.Sprint("a ", i), show2(grade.Gap(p, n(7), i, 0)), fails(api.ErrArg))
		same(t, fmt.Sprint("b ", i), show2(grade.Gap(p, n(7), 0, i)), fails(api.ErrArg))
		same(t, fmt.Sprint("ErrArg before ErrLoop ", i), show2(grade.Gap(stuck(), n(7), i, i)), fails(api.ErrArg))
	}
	same(t, "stuck", show2(grade.Gap(stuck(), n(7), 0, 0)), fails(api.ErrLoop))
	same(t, "stuck, without a chain", show2(grade.Gap(stuck(), n(7), 0, 1)), fails(api.ErrLoop))
}

func TestGapLarge(t *testing.T) {
	for k, p := range largePatterns(250) {
		s := sizesOf(p)[k%10]
		for b := range p.N {
			to, isDone := relaxed(p, s, b)
			for a, w := range to {
				g, some, e := grade.Gap(p, s, a, b)
				if e == api.ErrLoop {
					continue
				}
				if !isDone || some != (w != nil) || some && rat(g).Cmp(w) != 0 {
					t.Error(p, s, a, b, g, some, e, w)
				}
			}
		}
	}
}

func TestTight(t *testing.T) {
	for _, p := range slices.Concat(smallPatterns(), largePatterns(300)) {
		for _, s := range sizesOf(p) {
			least, e := grade.Least(p, s)
			var want []int
			for k, u := range p.Rules {
				if e == api.OK && new(big.Rat).Sub(rat(least[u.A]), rat(least[u.B])).Cmp(weightAt(u.C, u.D, s)) == 0 {
					want = append(want, k)
				}
			}
			same(t, fmt.Sprint(p, s), show(grade.Tight(p, s)), show(want, e))
		}
	}
	same(t, "a rule with itself", show(grade.Tight(pat(1, r(0, 0, -7, 1), r(0, 0, -8, 1)), n(7))), ok([]int{0}))
	same(t, "no rules", show(grade.Tight(pat(4), n(7))), ok([]int{}))
	same(t, "equal rules", show(grade.Tight(pat(2, r(1, 0, 5, 0), r(1, 0, 4, 0), r(1, 0, 5, 0)), n(7))), ok([]int{0, 2}))
	same(t, "stuck", show(grade.Tight(stuck(), n(7))), fails(api.ErrLoop))
}

// P4.14: if no D is negative, Least grows with s.
func TestGrowth(t *testing.T) {
	count := 0
	for _, p := range slices.Concat(smallPatterns(), largePatterns(300)) {
		for i := range p.Rules {
			p.Rules[i].D = max(p.Rules[i].D, -p.Rules[i].D)
		}
		l := sizesOf(p)
		slices.SortFunc(l, func(a, b api.Frac) int { return rat(a).Cmp(rat(b)) })
		var last []api.Frac
		for _, s := range l {
			x, e := grade.Least(p, s)
			for i := range last {
				if e == api.OK && rat(x[i]).Cmp(rat(last[i])) < 0 {
					t.Error(p, s, i, x, last)
				}
			}
			if e == api.OK {
				last = x
				count++
			}
		}
	}
	if count < 10000 {
		t.Error(count)
	}
}
