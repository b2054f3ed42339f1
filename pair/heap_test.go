package pair_test

import (
	"fmt"
	"slices"
	"testing"

	"trank/api"
	"trank/pair"
)

// P6.8, P6.9, P6.14: pairs out of one heap.

// Heap has as many pairs as its barrier allows, which no matching exceeds.
func TestHeap(t *testing.T) {
	spare := 0
	for _, p := range piles() {
		m := must[[]int](t)(pair.Heap(p.h, p.u))
		pairs := size(m) / 2
		if !p.isMatching(m) || 2*pairs > len(p.h) {
			t.Error(p, m)
		}
		same(t, fmt.Sprint("Pairs ", p, m), show(pair.Pairs(p.h, p.u, m)), ok(pairs))
		b := must[[]int](t)(pair.Barrier(p.h, p.u))
		if !areRising(b, len(p.h)) {
			t.Fatal(p, b)
		}
		d := p.oddClasses(b)
		if 2*pairs != len(p.h)+len(b)-d {
			t.Error(p, m, b, d)
		}
		same(t, fmt.Sprint("Odd ", p, b), show(pair.Odd(p.h, p.u, b)), ok(d))
		if len(p.h)-2*pairs > 1 && len(b) > 0 {
			spare++
		}
	}
	if spare < 300 {
		t.Error(spare)
	}
}

func TestHeapBySets(t *testing.T) {
	for _, p := range slices.Concat(tinyPiles(), randomPiles(150, 15)) {
		m := must[[]int](t)(pair.Heap(p.h, p.u))
		if n := p.mostPairs(); size(m) != 2*n {
			t.Error(p, m, n)
		}
	}
}

func TestPairs(t *testing.T) {
	h := shades(0, 8, 16, 17)
	for _, x := range []struct {
		m    []int
		want string
	}{
		{[]int{-1, -1, -1, -1}, ok(0)}, {[]int{1, 0, 3, 2}, ok(2)}, {[]int{-1, 2, 1, -1}, ok(1)}, {[]int{-1, 3, -1, 1}, ok(1)},
		{nil, fails(api.ErrSize)}, {[]int{}, fails(api.ErrSize)}, {[]int{1, 0, 3}, fails(api.ErrSize)}, {[]int{1, 0, 3, 2, -1}, fails(api.ErrSize)}, {[]int{9}, fails(api.ErrSize)},
		{[]int{0, -1, -1, -1}, fails(api.ErrForm)}, {[]int{-1, -1, -1, 3}, fails(api.ErrForm)}, {[]int{0, 1, 2, 3}, fails(api.ErrForm)},
		{[]int{2, -1, 0, -1}, fails(api.ErrForm)}, {[]int{1, -1, -1, -1}, fails(api.ErrForm)}, {[]int{1, 2, 1, -1}, fails(api.ErrForm)}, {[]int{1, 2, 3, 0}, fails(api.ErrForm)},
		{[]int{-2, -1, -1, -1}, fails(api.ErrForm)}, {[]int{-1, -1, -1, 4}, fails(api.ErrForm)}, {[]int{biggest, -1, -1, -1}, fails(api.ErrForm)}, {[]int{-biggest - 1, -1, -1, -1}, fails(api.ErrForm)},
	} {
		same(t, fmt.Sprint(x), show(pair.Pairs(h, byShade, x.m)), x.want)
	}
	same(t, "empty", show(pair.Pairs(nil, byShade, nil)), ok(0))
	same(t, "empty", show(pair.Pairs(nil, byShade, []int{-1})), fails(api.ErrSize))
}

// All matchings, and all slices that are nearly matchings.
func TestPairsOfSamples(t *testing.T) {
	for _, p := range randomPiles(150, 6) {
		for _, m := range p.allMatchings() {
			same(t, fmt.Sprint(p, m), show(pair.Pairs(p.h, p.u, m)), ok(size(m)/2))
			for i := range m {
				other := slices.Clone(m)
				for other[i] = -2; other[i] <= len(m); other[i]++ {
					want := fails(api.ErrForm)
					if p.isMatching(other) {
						want = ok(size(other) / 2)
					}
					same(t, fmt.Sprint(p, other), show(pair.Pairs(p.h, p.u, other)), want)
				}
			}
		}
	}
}

// P6.9: for every b, twice the number of pairs of any matching is at most n + the length of b - d.
func TestOdd(t *testing.T) {
	d := dice()
	for _, p := range slices.Concat(randomPiles(100, 7), specialPiles()[:7]) {
		pairs := p.mostPairs()
		for set := range 1 << len(p.h) {
			b := []int{}
			for i := range p.h {
				if set>>i&1 == 1 {
					b = append(b, i)
				}
			}
			odd := must[int](t)(pair.Odd(p.h, p.u, b))
			if odd != p.oddClasses(b) || 2*pairs > len(p.h)+len(b)-odd {
				t.Error(p, b, odd, pairs)
			}
		}
	}
	for _, p := range slices.Concat(fullPiles(100), specialPiles(), rings()) {
		for _, often := range []int{2, 3, 9} {
			var b []int
			for i := range p.h {
				if d.IntN(often) == 0 {
					b = append(b, i)
				}
			}
			same(t, fmt.Sprint(p, b), show(pair.Odd(p.h, p.u, b)), ok(p.oddClasses(b)))
		}
	}
}

func TestOddOfInvalid(t *testing.T) {
	h := shades(0, 8, 16)
	for _, b := range [][]int{{-1}, {3}, {0, 3}, {-1, 0}, {0, 0}, {1, 0}, {2, 1}, {0, 2, 1}, {0, 1, 1}, {0, 1, 2, 3}, {0, 1, 2, 2}, {biggest}, {-biggest - 1}, {0, biggest}, {1, -biggest - 1}} {
		same(t, fmt.Sprint(b), show(pair.Odd(h, byShade, b)), fails(api.ErrArg))
	}
	for _, b := range [][]int{nil, {}, {0}, {2}, {0, 1}, {0, 2}, {0, 1, 2}} {
		same(t, fmt.Sprint(b), show(pair.Odd(h, byShade, b)), ok(pile{h, byShade}.oddClasses(b)))
	}
	same(t, "all", show(pair.Odd(h, byShade, []int{0, 1, 2})), ok(0))
	same(t, "empty", show(pair.Odd(nil, byShade, nil)), ok(0))
	same(t, "empty", show(pair.Odd(nil, byShade, []int{0})), fails(api.ErrArg))
}
