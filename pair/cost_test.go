package pair_test

import (
	"fmt"
	"slices"
	"testing"

	"trank/api"
	"trank/pair"
)

// P6.1, P6.2: costs and pairings.

func TestCost(t *testing.T) {
	u := rule(g(1, 10, 100, 1000), g(4, 3, 2, 1))
	for _, x := range []struct {
		a, b pair.Glove
		want string
	}{
		{g(5, 5, 5, 5), g(5, 5, 5, 5), ok2(0, true)},
		{g(9, 8, 7, 6), g(5, 5, 5, 5), ok2(4+30+200+1000, true)},
		{g(1, 8, 3, 6), g(5, 5, 5, 5), ok2(4+30+200+1000, true)},
		{g(5, 5, 5, 5), g(5, 5, 5, 6), ok2(1000, true)},
		{g(5, 5, 5, 5), g(4, 4, 4, 4), ok2(1111, true)},
		{g(5, 5, 5, 5), g(10, 5, 5, 5), ok2(0, false)}, {g(5, 5, 5, 5), g(0, 5, 5, 5), ok2(0, false)},
		{g(5, 5, 5, 5), g(5, 9, 5, 5), ok2(0, false)}, {g(5, 5, 5, 5), g(5, 1, 5, 5), ok2(0, false)},
		{g(5, 5, 5, 5), g(5, 5, 8, 5), ok2(0, false)}, {g(5, 5, 5, 5), g(5, 5, 2, 5), ok2(0, false)},
		{g(5, 5, 5, 5), g(5, 5, 5, 7), ok2(0, false)}, {g(5, 5, 5, 5), g(5, 5, 5, 3), ok2(0, false)},
	} {
		same(t, fmt.Sprint(x), show2(pair.Cost(x.a, x.b, u)), x.want)
		same(t, fmt.Sprint(x), show2(pair.Cost(x.b, x.a, u)), x.want)
	}
	same(t, "greatest", show2(pair.Cost(all4(0), all4(1000), rule(all4(1000), all4(1000)))), ok2(4000000, true))
	same(t, "free", show2(pair.Cost(all4(0), all4(1000), rule(all4(0), all4(1000)))), ok2(0, true))
	same(t, "too far", show2(pair.Cost(all4(0), all4(1000), rule(all4(1000), g(1000, 1000, 1000, 999)))), ok2(0, false))
	same(t, "equal", show2(pair.Cost(all4(1000), all4(1000), rule(all4(1000), all4(0)))), ok2(0, true))
}

func TestCostsOfSamples(t *testing.T) {
	for _, s := range samples() {
		for i, a := range s.l {
			for j, b := range s.r {
				c, is := price(a, b, s.u)
				same(t, fmt.Sprint(a, b, s.u), show2(pair.Cost(a, b, s.u)), ok2(c, is))
				if is != s.allows(i, j) {
					t.Error(s, i, j)
				}
			}
		}
	}
}

func TestCostOfInvalid(t *testing.T) {
	good := all4(1)
	for _, x := range badGloves() {
		for _, c := range [][4]pair.Glove{{x, good, good, good}, {good, x, good, good}, {good, good, x, good}, {good, good, good, x}, {x, x, x, x}} {
			same(t, fmt.Sprint(c), show2(pair.Cost(c[0], c[1], rule(c[2], c[3]))), fails(api.ErrArg))
		}
	}
}

func TestWeigh(t *testing.T) {
	s := sample{shades(0, 10, 20), shades(5, 15, 100, 20), rule(g(3, 1, 1, 1), g(10, 0, 0, 0))}
	for _, x := range []struct {
		m    []int
		want string
	}{
		{[]int{-1, -1, -1}, ok2(0, 0)}, {[]int{0, 1, 3}, ok2(3, 30)}, {[]int{-1, 0, 1}, ok2(2, 30)}, {[]int{-1, 3, -1}, ok2(1, 30)}, {[]int{0, 3, 1}, ok2(3, 60)},
		{nil, fails(api.ErrSize)}, {[]int{}, fails(api.ErrSize)}, {[]int{0, 1}, fails(api.ErrSize)}, {[]int{0, 1, 3, -1}, fails(api.ErrSize)}, {[]int{0, 0, 0, 0}, fails(api.ErrSize)}, {[]int{-7}, fails(api.ErrSize)},
		{[]int{0, 1, 1}, fails(api.ErrForm)}, {[]int{0, 0, 3}, fails(api.ErrForm)}, {[]int{-1, 3, 3}, fails(api.ErrForm)},
		{[]int{-2, -1, -1}, fails(api.ErrForm)}, {[]int{-1, -1, -2}, fails(api.ErrForm)}, {[]int{4, -1, -1}, fails(api.ErrForm)}, {[]int{-1, biggest, -1}, fails(api.ErrForm)}, {[]int{-1, -biggest - 1, -1}, fails(api.ErrForm)},
		{[]int{1, -1, -1}, fails(api.ErrForm)}, {[]int{-1, 2, -1}, fails(api.ErrForm)}, {[]int{-1, -1, 0}, fails(api.ErrForm)},
	} {
		same(t, fmt.Sprint(x), show2(pair.Weigh(s.l, s.r, s.u, x.m)), x.want)
	}
	same(t, "empty", show2(pair.Weigh(nil, s.r, s.u, nil)), ok2(0, 0))
	same(t, "empty", show2(pair.Weigh(s.l, nil, s.u, []int{-1, -1, -1})), ok2(0, 0))
	same(t, "empty", show2(pair.Weigh(s.l, nil, s.u, []int{-1, 0, -1})), fails(api.ErrForm))
	same(t, "empty", show2(pair.Weigh(nil, s.r, s.u, []int{-1})), fails(api.ErrSize))
}

// All pairings, and all slices that are nearly pairings.
func TestWeighOfSamples(t *testing.T) {
	count := [2]int{}
	for _, s := range tinySamples()[:300] {
		for _, m := range s.allPairings() {
			same(t, fmt.Sprint(s, m), show2(pair.Weigh(s.l, s.r, s.u, m)), ok2(size(m), sum(s.costs(m))))
			for i := range m {
				other := slices.Clone(m)
				for other[i] = -2; other[i] <= len(s.r); other[i]++ {
					want := fails(api.ErrForm)
					if s.isPairing(other) {
						want = ok2(size(other), sum(s.costs(other)))
						count[0]++
					} else {
						count[1]++
					}
					same(t, fmt.Sprint(s, other), show2(pair.Weigh(s.l, s.r, s.u, other)), want)
				}
			}
		}
	}
	if count[0] < 10000 || count[1] < 10000 {
		t.Error(count)
	}
	full := sample{many(32, all4(0)), many(32, all4(1000)), rule(all4(1000), all4(1000))}
	m := must[[]int](t)(pair.Cheapest(full.l, full.r, full.u))
	same(t, "full", show2(pair.Weigh(full.l, full.r, full.u, m)), ok2(32, 32*4000000))
}
