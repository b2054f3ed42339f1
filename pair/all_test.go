package pair_test

import (
	"fmt"
	"slices"
	"testing"

	"trank/api"
	"trank/pair"
)

// What all functions have in common.

// two is a sample for which all arguments of ofSides are what their names say.
func two() sample { return sample{shades(5, 5), shades(5, 5), byShade} }

// ErrArg before every other error, for every argument.
func TestInvalidSides(t *testing.T) {
	for _, bad := range badSides() {
		for _, c := range ofSides() {
			for _, other := range [][]pair.Glove{nil, two().r, many(32, all4(1)), bad} {
				same(t, fmt.Sprint(c.name, bad), c.text(sample{bad, other, byShade}), fails(api.ErrArg))
				same(t, fmt.Sprint(c.name, bad), c.text(sample{other, bad, byShade}), fails(api.ErrArg))
			}
		}
		for _, c := range ofHeap() {
			same(t, fmt.Sprint(c.name, bad), c.text(pile{bad, byShade}), fails(api.ErrArg))
		}
	}
}

func TestInvalidRules(t *testing.T) {
	for _, u := range badRules() {
		for _, side := range [][]pair.Glove{nil, two().r, many(32, all4(1)), many(33, all4(1))} {
			for _, c := range ofSides() {
				same(t, fmt.Sprint(c.name, u), c.text(sample{side, two().r, u}), fails(api.ErrArg))
				same(t, fmt.Sprint(c.name, u), c.text(sample{nil, side, u}), fails(api.ErrArg))
			}
			for _, c := range ofHeap() {
				same(t, fmt.Sprint(c.name, u), c.text(pile{side, u}), fails(api.ErrArg))
			}
		}
	}
}

// The other arguments of ofSides and ofHeap are as their names say, and the limits of gloves and rules are valid.
func TestValid(t *testing.T) {
	wants := map[string]api.Errno{"Weigh form": api.ErrForm, "Blocking form": api.ErrForm, "Worth range": api.ErrArg, "Weigh size": api.ErrSize, "Blocking size": api.ErrSize, "Worth size": api.ErrSize, "Pairs form": api.ErrForm, "Pairs size": api.ErrSize, "Odd twice": api.ErrArg}
	check := func(name, have string) {
		if want := wants[name]; want != api.OK {
			same(t, name, have, fails(want))
		} else if len(have) > 5 && have[:5] == "error" {
			t.Error(name, have)
		}
	}
	for _, x := range []pair.Glove{all4(0), all4(1000), g(1000, 0, 0, 0), g(0, 1000, 0, 0), g(0, 0, 1000, 0), g(0, 0, 0, 1000)} {
		for _, u := range []pair.Rule{rule(x, x), rule(all4(0), all4(0)), rule(all4(1000), all4(0)), rule(all4(0), all4(1000))} {
			for _, c := range ofSides() {
				check(c.name, c.text(sample{many(2, x), many(2, x), u}))
			}
			for _, c := range ofHeap() {
				check(c.name, c.text(pile{many(2, x), u}))
			}
		}
	}
	for _, s := range []sample{{many(32, all4(1)), many(32, all4(1)), byShade}, {many(32, all4(1)), nil, byShade}, {nil, many(32, all4(1)), byShade}} {
		for _, c := range ofSides()[:6] {
			check(c.name, c.text(s))
		}
	}
	for _, c := range ofHeap()[:2] {
		check(c.name, c.text(pile{many(32, all4(1)), byShade}))
	}
}

// roomy has room behind the elements: an append would write into it.
func roomy[T any](l []T) []T { return append(make([]T, 0, len(l)+100), l...) }

// Arguments are neither changed nor shared by a result: a result that is written over changes neither them nor the next result.
func TestNothingShared(t *testing.T) {
	for _, s := range slices.Concat(tinySamples()[:300], randomSamples(40, 12), fullSamples(8), special()) {
		l, r, u := roomy(s.l), roomy(s.r), s.u
		m := roomy(must[[]int](t)(pair.Cheapest(l, r, u)))
		a0, b0 := must2[[]int, []int](t)(pair.Prices(l, r, u))
		a, b := roomy(a0), roomy(b0)
		all := func() string {
			return fmt.Sprint(l[:cap(l)], r[:cap(r)], m[:cap(m)], a[:cap(a)], b[:cap(b)])
		}
		before := all()
		writeOver(t, func() ([]int, api.Errno) { return pair.Cheapest(l, r, u) }, 77)
		writeOver(t, func() ([]int, api.Errno) { return pair.Stable(l, r, u) }, 77)
		writeOver(t, func() ([][2]int, api.Errno) { return pair.Blocking(l, r, u, m) }, [2]int{77, 77})
		writeOver2(t, func() ([]int, []int, api.Errno) { return pair.Cover(l, r, u) })
		writeOver2(t, func() ([]int, []int, api.Errno) { return pair.Prices(l, r, u) })
		pair.Weigh(l, r, u, m)
		pair.Worth(l, r, u, a, b)
		for _, c := range ofSides() {
			x := sample{l, r, u}
			first := c.text(x)
			same(t, "again "+c.name, c.text(x), first)
		}
		same(t, "arguments", all(), before)
	}
}

func TestNothingSharedOfHeaps(t *testing.T) {
	for _, p := range slices.Concat(tinyPiles()[:300], rings(), fullPiles(30), specialPiles()) {
		h, u := roomy(p.h), p.u
		m := roomy(must[[]int](t)(pair.Heap(h, u)))
		b := roomy(must[[]int](t)(pair.Barrier(h, u)))
		all := func() string { return fmt.Sprint(h[:cap(h)], m[:cap(m)], b[:cap(b)]) }
		before := all()
		writeOver(t, func() ([]int, api.Errno) { return pair.Heap(h, u) }, 77)
		writeOver(t, func() ([]int, api.Errno) { return pair.Barrier(h, u) }, 77)
		pair.Pairs(h, u, m)
		pair.Odd(h, u, b)
		for _, c := range ofHeap() {
			first := c.text(pile{h, u})
			same(t, "again "+c.name, c.text(pile{h, u}), first)
		}
		same(t, "arguments", all(), before)
	}
}

func writeOver[T any](t *testing.T, g func() ([]T, api.Errno), x T) {
	t.Helper()
	first, e := g()
	want := show(first, e)
	fill(first, x)
	same(t, "again", show(g()), want)
}

// writeOver2 is writeOver of two results, which share no memory with each other either.
func writeOver2(t *testing.T, g func() ([]int, []int, api.Errno)) {
	t.Helper()
	one, other, e := g()
	want, second := show2(one, other, e), fmt.Sprint(other)
	fill(one, 77)
	same(t, "second result", fmt.Sprint(other), second)
	fill(other, 77)
	same(t, "again", show2(g()), want)
}

func fill[T any](l []T, x T) {
	for i := range l[:cap(l)] {
		l[:cap(l)][i] = x
	}
}

// A nil slice and an empty one are the same as arguments.
func TestNilAndEmpty(t *testing.T) {
	empty := []pair.Glove{}
	for _, side := range [][]pair.Glove{nil, shades(1), shades(1, 1)} {
		for _, c := range ofSides() {
			same(t, c.name, c.text(sample{empty, side, byShade}), c.text(sample{nil, side, byShade}))
			same(t, c.name, c.text(sample{side, empty, byShade}), c.text(sample{side, nil, byShade}))
		}
		same(t, "Weigh", show2(pair.Weigh(nil, side, byShade, []int{})), show2(pair.Weigh(nil, side, byShade, nil)))
		same(t, "Weigh", show2(pair.Weigh(side, side, byShade, []int{})), show2(pair.Weigh(side, side, byShade, nil)))
		same(t, "Blocking", show(pair.Blocking(nil, side, byShade, []int{})), show(pair.Blocking(nil, side, byShade, nil)))
		same(t, "Worth", show2(pair.Worth(nil, nil, byShade, []int{}, nil)), show2(pair.Worth(nil, nil, byShade, nil, []int{})))
		same(t, "Pairs", show(pair.Pairs(side, byShade, []int{})), show(pair.Pairs(side, byShade, nil)))
		same(t, "Odd", show(pair.Odd(side, byShade, []int{})), show(pair.Odd(side, byShade, nil)))
	}
	for _, c := range ofHeap() {
		same(t, c.name, c.text(pile{empty, byShade}), c.text(pile{nil, byShade}))
	}
}

// The samples are what they are taken for.
func TestHelpers(t *testing.T) {
	most, paired := map[int]int{}, 0
	for _, s := range samples() {
		if len(s.l) > 32 || len(s.r) > 32 {
			t.Error(s)
		}
		most[s.most()]++
		if n := s.most(); n > 0 && n < min(len(s.l), len(s.r)) {
			paired++
		}
	}
	if len(most) < 20 || paired < 200 {
		t.Error(most, paired)
	}
	for _, p := range piles() {
		if len(p.h) > 32 {
			t.Error(p)
		}
	}
}
