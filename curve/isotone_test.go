package curve_test

import (
	"fmt"
	"math"
	"math/big"
	"slices"
	"testing"

	"trank/api"
	"trank/curve"
)

// meanOf is the mean of the values from i to j.
func meanOf(l []int, i, j int) *big.Rat {
	sum := 0
	for _, x := range l[i : j+1] {
		sum += x
	}
	return big.NewRat(int64(sum), int64(j+1-i))
}

// isotoneOf is, for each i, the greatest over all starts up to i of the least mean over all ends from i on.
func isotoneOf(l []int) []api.Frac {
	r := []api.Frac{}
	for i := range l {
		var best *big.Rat
		for j := 0; j <= i; j++ {
			low := meanOf(l, j, i)
			for k := i; k < len(l); k++ {
				if m := meanOf(l, j, k); m.Cmp(low) < 0 {
					low = m
				}
			}
			if best == nil || low.Cmp(best) > 0 {
				best = low
			}
		}
		r = append(r, bounded(best))
	}
	return r
}

// sequences are all of the length with values below m.
func sequences(length, m int) [][]int {
	l := [][]int{{}}
	for range length {
		var longer [][]int
		for _, s := range l {
			for x := range m {
				longer = append(longer, append(slices.Clone(s), x))
			}
		}
		l = longer
	}
	return l
}

func measured() [][]int {
	var l [][]int
	for length := range 6 {
		l = append(l, sequences(length, 4)...)
	}
	r := dice()
	for range 300 {
		s := make([]int, 1+r.IntN(48))
		for i := range s {
			s[i] = r.IntN([]int{3, 50, 1000001}[r.IntN(3)])
		}
		l = append(l, s)
	}
	return append(l, slices.Repeat([]int{1000000}, 48), append(slices.Repeat([]int{1000000}, 47), 0), slices.Repeat([]int{0}, 48))
}

// P2.11
func TestIsotone(t *testing.T) {
	for _, l := range measured() {
		before := slices.Clone(l)
		same(t, fmt.Sprint("Isotone ", l), show(curve.Isotone(l)), ok(isotoneOf(l)))
		if !slices.Equal(l, before) {
			t.Error("changed", before)
		}
	}
	same(t, "nil", show(curve.Isotone(nil)), ok([]api.Frac{}))
	same(t, "empty", show(curve.Isotone([]int{})), ok([]api.Frac{}))
	for _, bad := range []int{-1, 1000001, math.MinInt, math.MaxInt} {
		same(t, "ErrArg", show(curve.Isotone([]int{bad})), fails(api.ErrArg))
		same(t, "ErrArg", show(curve.Isotone(append(slices.Repeat([]int{1}, 47), bad))), fails(api.ErrArg))
		same(t, "ErrSize first", show(curve.Isotone(append(slices.Repeat([]int{1}, 48), bad))), fails(api.ErrSize))
	}
	same(t, "48 values", show(curve.Isotone(slices.Repeat([]int{1}, 48))), ok(slices.Repeat([]api.Frac{n(1)}, 48)))
	same(t, "49 values", show(curve.Isotone(slices.Repeat([]int{1}, 49))), fails(api.ErrSize))
}

func squares(l []int, s []*big.Rat) *big.Rat {
	sum := new(big.Rat)
	for i, x := range l {
		d := new(big.Rat).Sub(big.NewRat(int64(x), 1), s[i])
		sum.Add(sum, d.Mul(d, d))
	}
	return sum
}

// P2.11: no non-decreasing sequence of means of runs is as near.
func TestIsotoneIsNearest(t *testing.T) {
	for _, l := range sequences(4, 3) {
		var means []*big.Rat
		for i := range l {
			for j := i; j < len(l); j++ {
				means = append(means, meanOf(l, i, j))
			}
		}
		f, _ := curve.Isotone(l)
		var result []*big.Rat
		for _, x := range f {
			result = append(result, rat(x))
		}
		least := squares(l, result)
		var extend func(s []*big.Rat)
		extend = func(s []*big.Rat) {
			if len(s) == len(l) {
				isResult := slices.EqualFunc(s, result, func(a, b *big.Rat) bool { return a.Cmp(b) == 0 })
				if c := squares(l, s).Cmp(least); c < 0 || c == 0 && !isResult {
					t.Error(l, f, s)
				}
				return
			}
			for _, m := range means {
				if len(s) == 0 || m.Cmp(s[len(s)-1]) >= 0 {
					extend(append(slices.Clone(s), m))
				}
			}
		}
		extend(nil)
	}
}

// P2.16
func TestIsotonePromises(t *testing.T) {
	for _, l := range measured() {
		f, _ := curve.Isotone(l)
		sum, want := new(big.Rat), new(big.Rat)
		var whole []api.Frac
		for i, x := range f {
			sum.Add(sum, rat(x))
			want.Add(want, big.NewRat(int64(l[i]), 1))
			whole = append(whole, n(l[i]))
		}
		if len(f) != len(l) || sum.Cmp(want) != 0 || !slices.IsSortedFunc(f, compare) {
			t.Error(l, f)
		}
		if slices.IsSorted(l) {
			same(t, fmt.Sprint("non-decreasing ", l), ok(f), ok(whole))
		}
	}
}
