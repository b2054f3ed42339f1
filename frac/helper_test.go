package frac_test

import (
	"math"
	"math/big"
	"testing"

	"trank/api"
	"trank/frac"
)

const most = api.MaxPart

func f(num, den int) api.Frac { return api.Frac{Num: num, Den: den} }

func rat(x api.Frac) *big.Rat { return big.NewRat(int64(x.Num), int64(x.Den)) }

// exact is what a function answers whose exact result is r.
func exact(r *big.Rat) (api.Frac, api.Errno) {
	bound := big.NewInt(most)
	if r.Num().CmpAbs(bound) > 0 || r.Denom().Cmp(bound) > 0 {
		return api.Frac{}, api.ErrRange
	}
	return f(int(r.Num().Int64()), int(r.Denom().Int64())), api.OK
}

func floorOf(r *big.Rat) *big.Int {
	q, m := new(big.Int), new(big.Int)
	q.DivMod(r.Num(), r.Denom(), m) // Euclidean; the denominator is positive
	return q
}

// small are all fractions of small parts.
func small(num, den int) []api.Frac {
	var l []api.Frac
	for d := 1; d <= den; d++ {
		for n := -num; n <= num; n++ {
			if new(big.Int).GCD(nil, nil, big.NewInt(int64(d)), big.NewInt(int64(max(n, -n)))).Int64() == 1 {
				l = append(l, f(n, d))
			}
		}
	}
	return l
}

// large are fractions with parts at and near the limit.
func large() []api.Frac {
	var l []api.Frac
	for _, x := range []api.Frac{
		f(most, 1), f(1, most), f(most-1, 1), f(1, most-1), f(most, most-1), f(most-1, most),
		f(most/2, 1), f(1, most/2), f(most-1, 2), f(2, most-1), f(most, 3), f(3, most),
		f(701408733, 433494437), f(433494437, 701408733), f(65536, 59049), f(31623, 31622),
		f(999999937, 2), f(999999937, 999999929), f(1, 999999937), f(most/2+1, most),
	} {
		l = append(l, x, f(-x.Num, x.Den))
	}
	return l
}

func samples() []api.Frac { return append(small(5, 5), large()...) }

func invalid() []api.Frac {
	return []api.Frac{
		{}, f(0, 2), f(0, -1), f(2, 4), f(-6, 4), f(1, 0), f(1, -2), f(-1, -2), f(most, most),
		f(most+1, 1), f(-most-1, 1), f(1, most+1), f(most+1, most), f(most, most+1),
		f(math.MinInt, 1), f(1, math.MinInt), f(math.MinInt, math.MinInt), f(math.MaxInt, 1), f(1, math.MaxInt), f(0, math.MinInt), f(math.MinInt, 0),
	}
}

type result struct {
	x api.Frac
	e api.Errno
}

func got(x api.Frac, e api.Errno) result { return result{x, e} }

func ok(num, den int) result { return result{f(num, den), api.OK} }

func fails(e api.Errno) result { return result{api.Frac{}, e} }

func same(t *testing.T, what string, have, want result) {
	t.Helper()
	if have != want {
		t.Errorf("%s: have %v, want %v", what, have, want)
	}
}

func TestSamplesAreValid(t *testing.T) {
	for _, x := range samples() {
		if !frac.Valid(x) {
			t.Error(x)
		}
	}
}
