package frac_test

import (
	"fmt"
	"math"
	"math/big"
	"slices"
	"testing"

	"trank/api"
	"trank/frac"
)

// P1.9
func TestSum(t *testing.T) {
	many := func(n int, x api.Frac) []api.Frac { return slices.Repeat([]api.Frac{x}, n) }
	for _, c := range []struct {
		l    []api.Frac
		want result
	}{
		{nil, ok(0, 1)}, {[]api.Frac{}, ok(0, 1)}, {[]api.Frac{f(-1, 2)}, ok(-1, 2)}, {[]api.Frac{f(1, 2), f(1, 3), f(1, 6)}, ok(1, 1)},
		{many(64, f(1, 3)), ok(64, 3)}, {many(65, f(1, 3)), fails(api.ErrSize)}, {many(65, f(2, 4)), fails(api.ErrSize)},
		{many(64, f(2, 4)), fails(api.ErrArg)}, {append(many(63, f(most, 1)), f(0, 0)), fails(api.ErrArg)},
		{many(64, f(most, 1)), fails(api.ErrRange)}, {[]api.Frac{f(most, 1), f(1, 1), f(-1, 1)}, fails(api.ErrRange)},
		{[]api.Frac{f(most, 1), f(-1, 1), f(1, 1)}, ok(most, 1)}, {[]api.Frac{f(1, most), f(1, most-1), f(-1, most-1)}, fails(api.ErrRange)},
		{[]api.Frac{f(most, 1), f(1, 1), f(1, 0)}, fails(api.ErrArg)},
	} {
		before := slices.Clone(c.l)
		same(t, fmt.Sprint("Sum ", c.l), got(frac.Sum(c.l)), c.want)
		if !slices.Equal(before, c.l) {
			t.Error("changed", before)
		}
	}
	for _, bad := range invalid() {
		same(t, "Sum", got(frac.Sum([]api.Frac{f(1, 2), bad})), fails(api.ErrArg))
	}
}

// P1.9
func TestBlend(t *testing.T) {
	fracs := func(n int, x api.Frac) []api.Frac { return slices.Repeat([]api.Frac{x}, n) }
	ints := func(n, x int) []int { return slices.Repeat([]int{x}, n) }
	for _, c := range []struct {
		l    []api.Frac
		w    []int
		want result
	}{
		{[]api.Frac{f(1, 2), f(1, 3)}, []int{2, 1}, ok(4, 9)}, {[]api.Frac{f(-1, 2)}, []int{7}, ok(-1, 2)}, {[]api.Frac{f(5, 1), f(9, 1)}, []int{0, 1}, ok(9, 1)},
		{[]api.Frac{f(1, 2), f(-1, 2)}, []int{1, 1}, ok(0, 1)},
		{fracs(64, f(2, 3)), ints(64, 5), ok(2, 3)}, {fracs(64, f(1, 1)), ints(64, 1000000), ok(1, 1)},
		{nil, nil, fails(api.ErrZero)}, {[]api.Frac{}, []int{}, fails(api.ErrZero)}, {[]api.Frac{f(1, 2), f(1, 3)}, []int{0, 0}, fails(api.ErrZero)},
		{fracs(65, f(1, 2)), ints(65, 1), fails(api.ErrSize)}, {fracs(65, f(1, 2)), ints(1, -1), fails(api.ErrSize)}, {fracs(1, f(0, 0)), ints(65, 1), fails(api.ErrSize)},
		{fracs(65, f(0, 0)), ints(65, -1), fails(api.ErrSize)},
		{fracs(64, f(1, 2)), ints(63, 1), fails(api.ErrArg)}, {fracs(2, f(1, 2)), ints(3, 0), fails(api.ErrArg)}, {nil, ints(1, 1), fails(api.ErrArg)}, {fracs(1, f(1, 2)), nil, fails(api.ErrArg)},
		{[]api.Frac{f(2, 4)}, []int{0}, fails(api.ErrArg)}, {[]api.Frac{f(most, 1), f(1, 0)}, []int{2, 0}, fails(api.ErrArg)},
		{[]api.Frac{f(1, 2)}, []int{-1}, fails(api.ErrArg)}, {[]api.Frac{f(1, 2)}, []int{1000000}, ok(1, 2)}, {[]api.Frac{f(1, 2)}, []int{1000001}, fails(api.ErrArg)},
		{[]api.Frac{f(1, 2), f(1, 2)}, []int{1, -1}, fails(api.ErrArg)}, {[]api.Frac{f(1, 2)}, []int{math.MinInt}, fails(api.ErrArg)}, {[]api.Frac{f(1, 2)}, []int{math.MaxInt}, fails(api.ErrArg)},
		{[]api.Frac{f(most, 1)}, []int{2}, fails(api.ErrRange)}, {[]api.Frac{f(most, 1), f(1, 1)}, []int{1, 1}, fails(api.ErrRange)}, {[]api.Frac{f(1, most), f(0, 1)}, []int{1, 1}, fails(api.ErrRange)},
		{[]api.Frac{f(most, 1), f(1, 1), f(-most, 1)}, []int{1, 1, 1}, fails(api.ErrRange)}, {[]api.Frac{f(most, 1), f(-most, 1), f(1, 1)}, []int{1, 1, 1}, ok(1, 3)},
	} {
		l, w := slices.Clone(c.l), slices.Clone(c.w)
		same(t, fmt.Sprint("Blend ", c.l, c.w), got(frac.Blend(c.l, c.w)), c.want)
		if !slices.Equal(l, c.l) || !slices.Equal(w, c.w) {
			t.Error("changed", l, w)
		}
	}
	for _, bad := range invalid() {
		same(t, "Blend", got(frac.Blend([]api.Frac{f(1, 2), bad}, []int{0, 0})), fails(api.ErrArg))
	}
}

// shared gives the pieces that are left over one by one, each to the first one of the greatest remainder that has had none.
func shared(n int, w []int) []int {
	all := new(big.Int)
	for _, x := range w {
		all.Add(all, big.NewInt(int64(x)))
	}
	shares, rest, left := make([]int, len(w)), make([]*big.Int, len(w)), n
	for i, x := range w {
		q, r := new(big.Int).Mul(big.NewInt(int64(n)), big.NewInt(int64(x))), new(big.Int)
		q.DivMod(q, all, r)
		shares[i], rest[i] = int(q.Int64()), r
		left -= shares[i]
	}
	for ; left > 0; left-- {
		best := 0
		for i := range rest {
			if rest[i].Cmp(rest[best]) > 0 {
				best = i
			}
		}
		shares[best]++
		rest[best] = big.NewInt(-1)
	}
	return shares
}

func weights() [][]int {
	var l [][]int
	for i := range 6 * 6 * 6 * 6 {
		w := []int{i % 6, i / 6 % 6, i / 36 % 6, i / 216}
		if i > 0 {
			l = append(l, w)
		}
	}
	return append(l, []int{5}, []int{most}, []int{most, most - 1, 1}, []int{most, 0, most, most},
		slices.Repeat([]int{1}, 64), slices.Repeat([]int{most}, 64), append(slices.Repeat([]int{most}, 63), most-1), append(slices.Repeat([]int{0}, 63), 3))
}

// P1.10, P1.13
func TestShare(t *testing.T) {
	for _, w := range weights() {
		for _, n := range []int{0, 1, 2, 3, 5, 7, 10, 63, 65, 1000, most - 1, most} {
			before := slices.Clone(w)
			l, e := frac.Share(n, w)
			if e != api.OK || !slices.Equal(l, shared(n, w)) || !slices.Equal(w, before) {
				t.Fatal(n, before, w, l, e)
			}
			l[0]++
			if !slices.Equal(w, before) {
				t.Fatal("shared memory", n, w)
			}
		}
	}
}

// P1.13
func TestSharesAreFair(t *testing.T) {
	for _, w := range weights() {
		all := 0
		for _, x := range w {
			all += x
		}
		for _, n := range []int{0, 1, 4, 11, 999, most - 7, most} {
			l, e := frac.Share(n, w)
			if e != api.OK || len(l) != len(w) {
				t.Fatal(n, w, l, e)
			}
			sum := 0
			for i, x := range l {
				sum += x
				floor := n * w[i] / all
				if x < floor || (x-1)*all > n*w[i] || w[i] == 0 && x != 0 {
					t.Error(n, w, l)
				}
			}
			if sum != n {
				t.Error(n, w, l)
			}
		}
	}
}

// P1.10: of equal remainders the first one, where more than two are equal.
func TestShareTies(t *testing.T) {
	for n := range 64 {
		l, e := frac.Share(n, slices.Repeat([]int{9}, 64))
		want := append(slices.Repeat([]int{1}, n), make([]int, 64-n)...)
		if !slices.Equal(l, want) || e != api.OK {
			t.Error(n, l, e)
		}
	}
}

// P1.10
func TestShareErrors(t *testing.T) {
	long := slices.Repeat([]int{1}, 65)
	for _, c := range []struct {
		n    int
		w    []int
		want api.Errno
	}{
		{1, long, api.ErrSize}, {-1, long, api.ErrSize}, {most + 1, make([]int, 65), api.ErrSize}, {math.MinInt, slices.Repeat([]int{-1}, 65), api.ErrSize},
		{-1, []int{1}, api.ErrArg}, {most + 1, []int{1}, api.ErrArg}, {math.MinInt, []int{1}, api.ErrArg}, {math.MaxInt, []int{1}, api.ErrArg},
		{1, []int{1, -1}, api.ErrArg}, {1, []int{most + 1}, api.ErrArg}, {0, []int{math.MinInt, math.MinInt}, api.ErrArg}, {1, []int{math.MaxInt, 1}, api.ErrArg},
		{-1, nil, api.ErrArg}, {most + 1, []int{0, 0}, api.ErrArg}, {0, []int{0, -1, 1}, api.ErrArg},
		{0, nil, api.ErrZero}, {1, []int{}, api.ErrZero}, {0, []int{0}, api.ErrZero}, {most, make([]int, 64), api.ErrZero},
	} {
		if l, e := frac.Share(c.n, c.w); len(l) != 0 || e != c.want {
			t.Error(c.n, c.w, l, e, c.want)
		}
	}
}
