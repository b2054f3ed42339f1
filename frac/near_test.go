package frac_test

import (
	"fmt"
	"math"
	"math/big"
	"slices"
	"testing"

	"trank/api"
	"trank/frac"
)

// termsOf follows the definition of the continued fraction.
func termsOf(r *big.Rat) []int {
	a := floorOf(r)
	rest := new(big.Rat).Sub(r, new(big.Rat).SetInt(a))
	l := []int{int(a.Int64())}
	if rest.Sign() == 0 {
		return l
	}
	return append(l, termsOf(rest.Inv(rest))...)
}

// P1.5, P1.12
func TestTerms(t *testing.T) {
	for _, x := range append(small(40, 25), large()...) {
		l, e := frac.Terms(x)
		if !slices.Equal(l, termsOf(rat(x))) || e != api.OK {
			t.Error(x, l, e)
		}
		same(t, fmt.Sprint("FromTerms ", l), got(frac.FromTerms(l)), result{x, api.OK})
	}
	for _, bad := range invalid() {
		if l, e := frac.Terms(bad); len(l) != 0 || e != api.ErrArg {
			t.Error(bad, l, e)
		}
	}
}

func ones(n, last int) []int {
	l := slices.Repeat([]int{1}, n)
	l[n-1] = last
	return l
}

// P1.5
func TestFromTerms(t *testing.T) {
	for _, c := range []struct {
		l    []int
		want result
	}{
		{[]int{0}, ok(0, 1)}, {[]int{1}, ok(1, 1)}, {[]int{-1}, ok(-1, 1)}, {[]int{-1, 2}, ok(-1, 2)}, {[]int{1, 2, 3, 4}, ok(43, 30)},
		{[]int{most}, ok(most, 1)}, {[]int{-most}, ok(-most, 1)}, {[]int{most + 1}, fails(api.ErrRange)}, {[]int{-most - 1}, fails(api.ErrRange)},
		{[]int{math.MinInt}, fails(api.ErrRange)}, {[]int{math.MaxInt}, fails(api.ErrRange)},
		{[]int{math.MinInt, 2}, fails(api.ErrRange)}, {[]int{0, math.MaxInt}, fails(api.ErrRange)}, {[]int{math.MinInt, math.MaxInt, math.MaxInt}, fails(api.ErrRange)},
		{[]int{0, most}, ok(1, most)}, {[]int{0, most + 1}, fails(api.ErrRange)}, {[]int{-1, most}, ok(1-most, most)},
		{[]int{-1, 1, most - 1}, ok(-1, most)}, {[]int{-1, 1, most}, fails(api.ErrRange)}, {[]int{-1, 1, 1, most - 1}, fails(api.ErrRange)},
		{[]int{1, most - 1}, ok(most, most-1)}, {[]int{1, most}, fails(api.ErrRange)}, {[]int{most, 2}, fails(api.ErrRange)}, {[]int{-most, 2}, fails(api.ErrRange)},
		{[]int{1 << 32, 1 << 32}, fails(api.ErrRange)}, {[]int{0, 1 << 32, 1 << 32, 1 << 32}, fails(api.ErrRange)}, {[]int{0, most, most, most}, fails(api.ErrRange)},
		{ones(42, 2), ok(701408733, 433494437)}, {ones(43, 2), fails(api.ErrRange)},
		{ones(64, 2), fails(api.ErrRange)}, {ones(65, 2), fails(api.ErrSize)}, {ones(65, 1), fails(api.ErrSize)}, {ones(65, -1), fails(api.ErrSize)},
		{ones(64, 1), fails(api.ErrArg)}, {ones(64, 0), fails(api.ErrArg)},
		{nil, fails(api.ErrArg)}, {[]int{}, fails(api.ErrArg)}, {[]int{1, 2, 1}, fails(api.ErrArg)}, {[]int{0, 1}, fails(api.ErrArg)},
		{[]int{1, 0}, fails(api.ErrArg)}, {[]int{1, -2}, fails(api.ErrArg)}, {[]int{1, 0, 2}, fails(api.ErrArg)}, {[]int{1, -1, 2}, fails(api.ErrArg)}, {[]int{1, math.MinInt, 2}, fails(api.ErrArg)},
		{[]int{most + 1, 0}, fails(api.ErrArg)}, {[]int{math.MaxInt, math.MaxInt, 1}, fails(api.ErrArg)},
	} {
		before := slices.Clone(c.l)
		same(t, fmt.Sprint("FromTerms ", c.l), got(frac.FromTerms(c.l)), c.want)
		if !slices.Equal(before, c.l) {
			t.Error("changed", before)
		}
	}
}

// nearest looks at all fractions whose Den is at most d.
func nearest(x api.Frac, d int) (lo, hi *big.Rat) {
	for den := 1; den <= d; den++ {
		scaled := new(big.Rat).Mul(rat(x), big.NewRat(int64(den), 1))
		down := floorOf(scaled)
		up := new(big.Int).Set(down)
		if !scaled.IsInt() {
			up.Add(up, big.NewInt(1))
		}
		below := new(big.Rat).SetFrac(down, big.NewInt(int64(den)))
		above := new(big.Rat).SetFrac(up, big.NewInt(int64(den)))
		if lo == nil || below.Cmp(lo) > 0 {
			lo = below
		}
		if hi == nil || above.Cmp(hi) < 0 {
			hi = above
		}
	}
	return lo, hi
}

// nearer chooses between Below and Above.
func nearer(x api.Frac, lo, hi *big.Rat) *big.Rat {
	down, up := new(big.Rat).Sub(rat(x), lo), new(big.Rat).Sub(hi, rat(x))
	if up.Cmp(down) < 0 {
		return hi
	}
	return lo
}

// P1.6
func TestBelowAboveNear(t *testing.T) {
	for _, x := range append(small(40, 25), large()...) {
		for d := 1; d <= 30; d++ {
			lo, hi := nearest(x, d)
			same(t, fmt.Sprint("Below ", x, d), got(frac.Below(x, d)), got(exact(lo)))
			same(t, fmt.Sprint("Above ", x, d), got(frac.Above(x, d)), got(exact(hi)))
			same(t, fmt.Sprint("Near ", x, d), got(frac.Near(x, d)), got(exact(nearer(x, lo, hi))))
		}
	}
}

// P1.6: a tie goes to Below.
func TestNearTies(t *testing.T) {
	same(t, "Near 1/2", got(frac.Near(f(1, 2), 1)), ok(0, 1))
	same(t, "Near -1/2", got(frac.Near(f(-1, 2), 1)), ok(-1, 1))
	same(t, "Near 5/12", got(frac.Near(f(5, 12), 3)), ok(1, 3))
	same(t, "Near", got(frac.Near(f(most-1, 2), 1)), ok(499999999, 1))
	same(t, "Near", got(frac.Near(f(most-1, most), most-1)), ok(most-2, most-1))
}

// P1.11: with lo.Den + hi.Den above d and neighbours of determinant 1, no fraction between them has a Den of at most d.
func TestNeighbours(t *testing.T) {
	bounds := []int{1, 2, 3, 7, 10, 99, 1000, 31622, 31623, 99999, 433494437, most/2 - 1, most / 2, most - 2, most - 1, most}
	for _, x := range append(small(30, 40), large()...) {
		for _, d := range bounds {
			lo, e1 := frac.Below(x, d)
			hi, e2 := frac.Above(x, d)
			near, e3 := frac.Near(x, d)
			if e1 != api.OK || e2 != api.OK || e3 != api.OK || !frac.Valid(lo) || !frac.Valid(hi) {
				t.Fatal(x, d, lo, e1, hi, e2, e3)
			}
			if near != lo && near != hi {
				t.Error(x, d, near)
			}
			if x.Den <= d {
				if lo != x || hi != x {
					t.Error(x, d, lo, hi)
				}
				continue
			}
			if lo.Den > d || hi.Den > d || rat(lo).Cmp(rat(x)) >= 0 || rat(hi).Cmp(rat(x)) <= 0 {
				t.Error(x, d, lo, hi)
			}
			if hi.Num*lo.Den-lo.Num*hi.Den != 1 || lo.Den+hi.Den <= d {
				t.Error("no neighbours", x, d, lo, hi)
			}
			if want, _ := exact(nearer(x, rat(lo), rat(hi))); near != want {
				t.Error(x, d, near, want)
			}
		}
	}
}

// P1.6
func TestBelowAboveNearRefuseInvalid(t *testing.T) {
	for _, call := range []func(api.Frac, int) (api.Frac, api.Errno){frac.Below, frac.Above, frac.Near} {
		for _, bad := range invalid() {
			same(t, fmt.Sprint(bad), got(call(bad, 10)), fails(api.ErrArg))
		}
		for _, d := range []int{0, -1, most + 1, math.MinInt, math.MaxInt} {
			same(t, fmt.Sprint(d), got(call(f(43, 30), d)), fails(api.ErrArg))
			same(t, fmt.Sprint(d), got(call(f(0, 1), d)), fails(api.ErrArg))
		}
	}
}

// simplest tries all fractions of rising Den.
func simplest(a, b api.Frac) api.Frac {
	for den := 1; ; den++ {
		var found []int
		for num := -60; num <= 60; num++ {
			x := big.NewRat(int64(num), int64(den))
			if x.Cmp(rat(a)) >= 0 && x.Cmp(rat(b)) <= 0 {
				found = append(found, num)
			}
		}
		if len(found) > 0 {
			return f(slices.MinFunc(found, func(m, n int) int { return max(m, -m) - max(n, -n) }), den)
		}
	}
}

// P1.7, P1.15
func TestSimplest(t *testing.T) {
	l := small(8, 7)
	for _, a := range l {
		for _, b := range l {
			if rat(a).Cmp(rat(b)) > 0 {
				same(t, fmt.Sprint("Simplest ", a, b), got(frac.Simplest(a, b)), fails(api.ErrArg))
				continue
			}
			same(t, fmt.Sprint("Simplest ", a, b), got(frac.Simplest(a, b)), result{simplest(a, b), api.OK})
		}
	}
	for _, x := range append(small(40, 30), large()...) {
		same(t, fmt.Sprint("Simplest ", x), got(frac.Simplest(x, x)), result{x, api.OK})
	}
}

// P1.7, P1.15
func TestSimplestAtTheLimits(t *testing.T) {
	for _, c := range []struct {
		a, b api.Frac
		want result
	}{
		{f(-most, 1), f(most, 1), ok(0, 1)}, {f(1, most), f(most, 1), ok(1, 1)}, {f(-most, 1), f(-1, most), ok(-1, 1)},
		{f(most-1, 1), f(most, 1), ok(most-1, 1)}, {f(-most, 1), f(1-most, 1), ok(1-most, 1)},
		{f(1, most), f(1, most-1), ok(1, most-1)}, {f(-1, most-1), f(-1, most), ok(-1, most-1)},
		{f(most-2, most-1), f(most-1, most), ok(most-2, most-1)}, {f(1, 3), f(999999937, 2), ok(1, 1)},
		{f(0, 1), f(1, most), ok(0, 1)}, {f(-1, most), f(0, 1), ok(0, 1)},
		{f(433494437, 701408733), f(433494437, 701408733), ok(433494437, 701408733)},
		{f(most, most-1), f(most-1, most-2), ok(most-1, most-2)},
		{f(1, 1), f(0, 1), fails(api.ErrArg)}, {f(0, 1), f(-1, most), fails(api.ErrArg)},
	} {
		same(t, fmt.Sprint("Simplest ", c.a, c.b), got(frac.Simplest(c.a, c.b)), c.want)
	}
	for _, bad := range invalid() {
		same(t, "Simplest", got(frac.Simplest(bad, f(1, 2))), fails(api.ErrArg))
		same(t, "Simplest", got(frac.Simplest(f(1, 2), bad)), fails(api.ErrArg))
		same(t, "Simplest", got(frac.Simplest(bad, bad)), fails(api.ErrArg))
	}
}

// P1.15: the best fraction below the Den of the answer misses the interval.
func TestNothingIsSimpler(t *testing.T) {
	for _, a := range large() {
		for _, b := range large() {
			if rat(a).Cmp(rat(b)) > 0 {
				continue
			}
			s, e := frac.Simplest(a, b)
			if e != api.OK || rat(s).Cmp(rat(a)) < 0 || rat(s).Cmp(rat(b)) > 0 {
				t.Error(a, b, s, e)
			}
			if s.Den == 1 {
				continue
			}
			if x, e := frac.Above(a, s.Den-1); e != api.OK || rat(x).Cmp(rat(b)) <= 0 {
				t.Error(a, b, s, x, e)
			}
		}
	}
}
