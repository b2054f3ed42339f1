package pair_test

import (
	"fmt"
	"math/rand/v2"
	"slices"
	"testing"

	"trank/api"
	"trank/pair"
)

// P6.3 to P6.6, P6.10 to P6.12, P6.15: largest and cheapest pairings.

func TestByLists(t *testing.T) {
	for _, s := range tinySamples() {
		most, cheapest, even := s.listed()
		same(t, fmt.Sprint("Most ", s), show(pair.Most(s.l, s.r, s.u)), ok(most))
		same(t, fmt.Sprint("Cheapest ", s), show(pair.Cheapest(s.l, s.r, s.u)), ok(cheapest))
		same(t, fmt.Sprint("Even ", s), show(pair.Even(s.l, s.r, s.u)), ok(even))
	}
}

func TestMost(t *testing.T) {
	for _, s := range samples() {
		same(t, fmt.Sprint("Most ", s), show(pair.Most(s.l, s.r, s.u)), ok(s.most()))
	}
}

// P6.3, P6.10: a cover is as large as Most; no smaller one is possible, since each pair of a pairing needs a glove of its own.
func TestCover(t *testing.T) {
	for _, s := range samples() {
		lefts, rights := must2[[]int, []int](t)(pair.Cover(s.l, s.r, s.u))
		if !areRising(lefts, len(s.l)) || !areRising(rights, len(s.r)) || len(lefts)+len(rights) != s.most() {
			t.Error(s, lefts, rights)
		}
		for i := range s.l {
			for j := range s.r {
				if s.allows(i, j) && !slices.Contains(lefts, i) && !slices.Contains(rights, j) {
					t.Error(s, lefts, rights, i, j)
				}
			}
		}
	}
}

// areRising reports whether l are indices below n that rise strictly.
func areRising(l []int, n int) bool {
	for k, i := range l {
		if i < 0 || i >= n || k > 0 && l[k-1] >= i {
			return false
		}
	}
	return true
}

// P6.4, P6.10: the first of the cheapest pairings.
func TestCheapest(t *testing.T) {
	for _, s := range samples() {
		m := must[[]int](t)(pair.Cheapest(s.l, s.r, s.u))
		same(t, fmt.Sprint("Cheapest ", s), fmt.Sprint(m), fmt.Sprint(s.cheapest()))
		if !s.isPairing(m) || size(m) != s.most() {
			t.Error(s, m)
		}
	}
}

// -1 counts as greater than every index.
func TestFirst(t *testing.T) {
	for _, x := range []struct {
		l, r []pair.Glove
		want []int
	}{
		{shades(5, 5, 5), shades(5), []int{0, -1, -1}},
		{shades(5), shades(5, 5, 5), []int{0}},
		{shades(5, 5, 5), shades(5, 5), []int{0, 1, -1}},
		{shades(4, 6), shades(5, 5), []int{0, 1}},
		{shades(4, 6), shades(5), []int{0, -1}},
		{shades(3, 4, 6), shades(5), []int{-1, 0, -1}},
		{shades(30, 4, 6), shades(5, 5), []int{-1, 0, 1}},
		{shades(9, 4), shades(3, 8), []int{1, 0}},
		{shades(0, 3), shades(3, 6), []int{0, 1}},
		{shades(3, 0), shades(3, 6), []int{0, 1}},
		{shades(0, 2), shades(1, 3, 1), []int{0, 1}},
		{nil, shades(5), nil}, {shades(5, 6), nil, []int{-1, -1}}, {nil, nil, nil},
	} {
		want := x.want
		if want == nil {
			want = []int{}
		}
		same(t, fmt.Sprint(x), show(pair.Cheapest(x.l, x.r, byShade)), ok(want))
	}
}

// P6.5, P6.11: the sum of the prices is the worth of the cheapest pairing, and Worth accepts them.
func TestPrices(t *testing.T) {
	for _, s := range samples() {
		a, b := must2[[]int, []int](t)(pair.Prices(s.l, s.r, s.u))
		if len(a) != len(s.l) || len(b) != len(s.r) || !s.isProof(a, b) {
			t.Error(s, a, b)
		}
		n, c := must2[int, int](t)(pair.Weigh(s.l, s.r, s.u, must[[]int](t)(pair.Cheapest(s.l, s.r, s.u))))
		if sum(a)+sum(b) != full*n-c || full*n-c != greatest(s.worths(), len(s.r)) {
			t.Error(s, a, b, n, c)
		}
		same(t, fmt.Sprint("Worth ", s, a, b), show2(pair.Worth(s.l, s.r, s.u, a, b)), ok2(full*n-c, true))
	}
}

// P6.5, P6.11: Worth of prices that are a proof, and of some that are not; no pairing is worth more than a proof.
func TestWorth(t *testing.T) {
	d := dice()
	count := [2]int{}
	for _, s := range slices.Concat(tinySamples(), randomSamples(100, 10), fullSamples(20), special()) {
		best := greatest(s.worths(), len(s.r))
		for _, p := range somePrices(t, d, s) {
			if s.isProof(p[0], p[1]) {
				count[0]++
				same(t, fmt.Sprint("Worth ", s, p), show2(pair.Worth(s.l, s.r, s.u, p[0], p[1])), ok2(sum(p[0])+sum(p[1]), true))
				if sum(p[0])+sum(p[1]) < best {
					t.Error(s, p, best)
				}
			} else {
				count[1]++
				same(t, fmt.Sprint("Worth ", s, p), show2(pair.Worth(s.l, s.r, s.u, p[0], p[1])), ok2(0, false))
			}
		}
	}
	if count[0] < 2000 || count[1] < 2000 {
		t.Error(count)
	}
}

// somePrices are those of Prices with small changes, and some that are as high or as low as possible.
func somePrices(t *testing.T, d *rand.Rand, s sample) [][2][]int {
	a, b := must2[[]int, []int](t)(pair.Prices(s.l, s.r, s.u))
	l := [][2][]int{
		{a, b},
		{slices.Repeat([]int{full}, len(a)), make([]int, len(b))}, {make([]int, len(a)), slices.Repeat([]int{full}, len(b))},
		{slices.Repeat([]int{full}, len(a)), slices.Repeat([]int{full}, len(b))}, {make([]int, len(a)), make([]int, len(b))},
		{slices.Repeat([]int{full / 2}, len(a)), slices.Repeat([]int{full / 2}, len(b))}, {slices.Repeat([]int{full / 2}, len(a)), slices.Repeat([]int{full/2 - 1}, len(b))},
	}
	for range 8 {
		p := [2][]int{slices.Clone(a), slices.Clone(b)}
		for range 1 + d.IntN(2) {
			side := p[d.IntN(2)]
			if len(side) > 0 {
				i := d.IntN(len(side))
				side[i] = max(0, min(full, side[i]+d.IntN(3)-1))
			}
		}
		l = append(l, p)
	}
	return l
}

func TestWorthOfInvalid(t *testing.T) {
	l, r := shades(0, 5), shades(4, 20, 5)
	a, b := must2[[]int, []int](t)(pair.Prices(l, r, byShade))
	if e := show2(pair.Worth(l, r, byShade, a, b)); e != ok2(1999999995, true) && e != ok2(1999999996, true) {
		t.Error(e)
	}
	for _, x := range []int{-1, full + 1, -full, -biggest - 1, biggest} {
		for i := range 5 {
			p := slices.Concat(a, b)
			p[i] = x
			same(t, fmt.Sprint(p), show2(pair.Worth(l, r, byShade, p[:2], p[2:])), fails(api.ErrArg))
			p = make([]int, 5) // no proof, whatever the sizes
			p[i] = x
			same(t, fmt.Sprint(p), show2(pair.Worth(l, r, byShade, p[:2], p[2:])), fails(api.ErrArg))
			for _, k := range []int{0, 1, 3, 4, 5} {
				same(t, fmt.Sprint(p, k), show2(pair.Worth(l, r, byShade, p[:k], p[k:])), fails(api.ErrSize))
			}
		}
	}
	for _, x := range [][2][]int{{nil, nil}, {a, nil}, {nil, b}, {a[:1], b}, {a, b[:2]}, {slices.Concat(a, a), b}, {a, slices.Concat(b, b)}, {b, a}} {
		same(t, fmt.Sprint(x), show2(pair.Worth(l, r, byShade, x[0], x[1])), fails(api.ErrSize))
	}
	same(t, "empty", show2(pair.Worth(nil, nil, byShade, nil, nil)), ok2(0, true))
	same(t, "empty", show2(pair.Worth(l, nil, byShade, []int{7, 8}, nil)), ok2(15, true))
	same(t, "empty", show2(pair.Worth(nil, r, byShade, nil, []int{7, 8, full})), ok2(15+full, true))
	same(t, "empty", show2(pair.Worth(nil, r, byShade, nil, []int{7, 8, full + 1})), fails(api.ErrArg))
}

// P6.11: the worth of every pairing is at most that of the prices.
func TestDuality(t *testing.T) {
	for _, s := range tinySamples() {
		a, b := must2[[]int, []int](t)(pair.Prices(s.l, s.r, s.u))
		v, _ := must2[int, bool](t)(pair.Worth(s.l, s.r, s.u, a, b))
		most := 0
		for _, m := range s.allPairings() {
			n, c := must2[int, int](t)(pair.Weigh(s.l, s.r, s.u, m))
			most = max(most, full*n-c)
		}
		if v != most {
			t.Error(s, v, most)
		}
	}
}

// P6.6: the pairs that cost at most Even are enough for a pairing of the greatest size, those that cost less are not.
func TestEven(t *testing.T) {
	for _, s := range samples() {
		even := must[int](t)(pair.Even(s.l, s.r, s.u))
		most := s.most()
		if s.mostUpTo(even) != most || even > 0 && s.mostUpTo(even-1) == most || even < 0 {
			t.Error(s, even, most)
		}
	}
	dear := rule(all4(1000), all4(1000))
	same(t, "greatest", show(pair.Even(many(32, all4(0)), many(32, all4(1000)), dear)), ok(4000000))
	same(t, "one less", show(pair.Even(many(32, all4(0)), many(32, g(1000, 1000, 1000, 999)), dear)), ok(3999000))
	same(t, "least", show(pair.Even(shades(3), shades(4), byShade)), ok(1))
	same(t, "none", show(pair.Even(shades(3), shades(40), byShade)), ok(0))
	same(t, "free", show(pair.Even(shades(3), shades(3), byShade)), ok(0))
	same(t, "empty", show(pair.Even(nil, nil, byShade)), ok(0))
	// The cheapest pairing has a pair of 10; both of the other one cost 6.
	same(t, "even", show(pair.Even(shades(0, 4), shades(4, 10), byShade)), ok(6))
	same(t, "cheapest", show(pair.Cheapest(shades(0, 4), shades(4, 10), byShade)), ok([]int{0, 1}))
}

// P6.12: the sides exchanged.
func TestExchanged(t *testing.T) {
	for _, s := range samples() {
		x := s.exchanged()
		same(t, "Most", show(pair.Most(x.l, x.r, x.u)), show(pair.Most(s.l, s.r, s.u)))
		same(t, "Even", show(pair.Even(x.l, x.r, x.u)), show(pair.Even(s.l, s.r, s.u)))
		one := show2(pair.Weigh(s.l, s.r, s.u, must[[]int](t)(pair.Cheapest(s.l, s.r, s.u))))
		other := show2(pair.Weigh(x.l, x.r, x.u, must[[]int](t)(pair.Cheapest(x.l, x.r, x.u))))
		same(t, fmt.Sprint("Cheapest ", s), other, one)
	}
}

// P6.15: greater limits.
func TestGreaterLimits(t *testing.T) {
	d := dice()
	greater := 0
	for _, s := range samples() {
		before := must[int](t)(pair.Most(s.l, s.r, s.u))
		for _, p := range parts(&s.u.Limit) {
			*p = min(1000, *p+d.IntN(2+*p/3))
		}
		after := must[int](t)(pair.Most(s.l, s.r, s.u))
		if after < before {
			t.Error(s, before, after)
		}
		if after > before {
			greater++
		}
	}
	if greater < 100 {
		t.Error(greater)
	}
}
