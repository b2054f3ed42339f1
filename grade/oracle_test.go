package grade_test

import (
	"math/big"
	"slices"
	"testing"

	"trank/api"
	"trank/grade"
)

// What the tests compare with: lists of all loops and chains of small patterns, and checks of those that are proofs.

// ruleOf reports whether p has a rule with the number k, a ground rule if k is below 0.
func ruleOf(p grade.Pattern, k int) (grade.Rule, bool) {
	if k >= 0 && k < len(p.Rules) {
		return p.Rules[k], true
	}
	return r(-k, 0, 0, 0), k < 0 && -k < p.N
}

// chainsFrom lists all chains of p from a on in which no unknown is the A of two rules, but for those that go on from stop.
func chainsFrom(p grade.Pattern, a, stop int) [][]int {
	var l [][]int
	var grow func(chain []int, at int, been []int)
	grow = func(chain []int, at int, been []int) {
		l = append(l, chain)
		if slices.Contains(been, at) || len(chain) > 0 && at == stop {
			return
		}
		for k := 1 - p.N; k < len(p.Rules); k++ {
			if x, _ := ruleOf(p, k); x.A == at {
				grow(append(slices.Clone(chain), k), x.B, append(slices.Clone(been), at))
			}
		}
	}
	grow(nil, a, nil)
	return l
}

// loopsOf lists all loops of p, each from all its unknowns on.
func loopsOf(p grade.Pattern) [][]int {
	var l [][]int
	for a := range p.N {
		for _, c := range chainsFrom(p, a, a) {
			if len(c) > 0 && lastB(p, c) == a {
				l = append(l, c)
			}
		}
	}
	return l
}

func lastB(p grade.Pattern, chain []int) int {
	x, _ := ruleOf(p, chain[len(chain)-1])
	return x.B
}

// isChain reports whether l is a chain from a to b in which no unknown is the A of two rules.
func isChain(p grade.Pattern, l []int, a, b int) bool {
	var been []int
	for _, k := range l {
		x, isRule := ruleOf(p, k)
		if !isRule || x.A != a || slices.Contains(been, a) {
			return false
		}
		been, a = append(been, a), x.B
	}
	return a == b
}

func isLoop(p grade.Pattern, l []int) bool {
	if len(l) == 0 {
		return false
	}
	x, isRule := ruleOf(p, l[0])
	return isRule && isChain(p, l, x.A, x.A)
}

// sumOf returns the sums of the C and of the D.
func sumOf(p grade.Pattern, l []int) (c, d int) {
	for _, k := range l {
		x, _ := ruleOf(p, k)
		c, d = c+x.C, d+x.D
	}
	return c, d
}

func weightAt(c, d int, s api.Frac) *big.Rat {
	w := new(big.Rat).Mul(big.NewRat(int64(d), 1), rat(s))
	return w.Add(w, big.NewRat(int64(c), 1))
}

func weightOf(p grade.Pattern, l []int, s api.Frac) *big.Rat {
	c, d := sumOf(p, l)
	return weightAt(c, d, s)
}

// allowed returns the sizes at which none of the loops has a weight above 0.
func allowed(p grade.Pattern, loops [][]int) (lo, hi *big.Rat, some bool) {
	lo, hi = big.NewRat(0, 1), big.NewRat(40, 1)
	for _, l := range loops {
		c, d := sumOf(p, l)
		if d == 0 && c > 0 {
			return nil, nil, false
		}
		if d == 0 {
			continue
		}
		zero := big.NewRat(int64(-c), int64(d))
		if d < 0 && zero.Cmp(lo) > 0 {
			lo = zero
		}
		if d > 0 && zero.Cmp(hi) < 0 {
			hi = zero
		}
	}
	return lo, hi, lo.Cmp(hi) <= 0
}

// isDrawable reports whether no loop has a weight above 0 at s.
func isDrawable(p grade.Pattern, s api.Frac) bool {
	lo, hi, some := allowed(p, loopsOf(p))
	return some && rat(s).Cmp(lo) >= 0 && rat(s).Cmp(hi) <= 0
}

// heaviest returns the greatest weight of a chain from a to b, or nil if there is none. It needs a p of which no loop has a weight above 0.
func heaviest(p grade.Pattern, s api.Frac, a, b int) *big.Rat {
	var most *big.Rat
	for _, l := range chainsFrom(p, a, b) {
		if !isChain(p, l, a, b) {
			continue
		}
		if w := weightOf(p, l, s); most == nil || w.Cmp(most) > 0 {
			most = w
		}
	}
	return most
}

// relaxed returns the greatest weights of chains to b, of large patterns too, by as many rounds over all rules as there are unknowns, and whether a further round changes nothing.
func relaxed(p grade.Pattern, s api.Frac, b int) (l []*big.Rat, isDone bool) {
	l = make([]*big.Rat, p.N)
	l[b] = new(big.Rat)
	for range p.N + 1 {
		isDone = true
		for k := 1 - p.N; k < len(p.Rules); k++ {
			x, _ := ruleOf(p, k)
			if l[x.B] == nil {
				continue
			}
			w := new(big.Rat).Add(l[x.B], weightAt(x.C, x.D, s))
			if l[x.A] == nil || w.Cmp(l[x.A]) > 0 {
				l[x.A], isDone = w, false
			}
		}
	}
	return l, isDone
}

// satisfies is Fits by exact arithmetic.
func satisfies(p grade.Pattern, s api.Frac, x []api.Frac) bool {
	for k := 1 - p.N; k < len(p.Rules); k++ {
		u, _ := ruleOf(p, k)
		if new(big.Rat).Sub(rat(x[u.A]), rat(x[u.B])).Cmp(weightAt(u.C, u.D, s)) < 0 {
			return false
		}
	}
	return x[0].Num == 0
}

// wholeAssignments lists those whose elements are whole, with 0 first and none above most.
func wholeAssignments(unknowns, most int) [][]api.Frac {
	l := [][]api.Frac{whole(0)}
	for i := 1; i < unknowns; i++ {
		var next [][]api.Frac
		for _, x := range l {
			for v := range most + 1 {
				next = append(next, append(slices.Clone(x), n(v)))
			}
		}
		l = next
	}
	return l
}

func TestHelpers(t *testing.T) {
	p := pat(2, r(1, 0, 5, 0), r(0, 1, -9, 1))
	if l := loopsOf(p); len(l) != 4 {
		t.Error(l)
	}
	if l := chainsFrom(p, 1, 0); len(l) != 3 {
		t.Error(l)
	}
	if !isLoop(p, []int{0, 1}) || !isLoop(p, []int{1, -1}) || isLoop(p, []int{0, 0}) || isLoop(p, []int{0, 1, 0, 1}) || isLoop(p, []int{-1}) || isLoop(p, nil) || isLoop(p, []int{2}) || isLoop(p, []int{-2}) {
		t.Error("isLoop")
	}
	for _, x := range slices.Concat(smallPatterns(), largePatterns(200)) {
		if !grade.Valid(x) {
			t.Error(x)
		}
	}
	if l := wholeAssignments(3, 4); len(l) != 25 {
		t.Error(l)
	}
	count := map[api.Errno]int{}
	for _, x := range append(fewPatterns(1000), largePatterns(300)...) {
		_, _, e := grade.Sizes(x)
		count[e]++
	}
	if count[api.OK] < 500 || count[api.ErrLoop] < 200 {
		t.Error(count)
	}
}
