package frac_test

import (
	"fmt"
	"math"
	"math/big"
	"testing"

	"trank/api"
	"trank/frac"
)

func modes() []api.Mode {
	return []api.Mode{api.Floor, api.Ceil, api.Trunc, api.HalfUp, api.HalfEven}
}

// rounded follows the words of P1.3 and no formula of the program: it looks at both whole numbers around r.
func rounded(r *big.Rat, m api.Mode) *big.Int {
	down := floorOf(r)
	if r.IsInt() {
		return down
	}
	up := new(big.Int).Add(down, big.NewInt(1))
	toDown := new(big.Rat).Sub(r, new(big.Rat).SetInt(down))
	toUp := new(big.Rat).Sub(new(big.Rat).SetInt(up), r)
	c := toDown.Cmp(toUp)
	useUp := false
	switch m {
	case api.Ceil:
		useUp = true
	case api.Trunc:
		useUp = r.Sign() < 0
	case api.HalfUp:
		useUp = c >= 0
	case api.HalfEven:
		useUp = c > 0 || c == 0 && up.Bit(0) == 0
	}
	if useUp {
		return up
	}
	return down
}

// P1.3
func TestRound(t *testing.T) {
	for _, x := range append(small(40, 12), large()...) {
		for _, m := range modes() {
			if n, e := frac.Round(x, m); int64(n) != rounded(rat(x), m).Int64() || e != api.OK {
				t.Error(x, m, n, e)
			}
		}
	}
}

// P1.3: ties
func TestRoundTies(t *testing.T) {
	for _, c := range []struct {
		num  int
		want [5]int
	}{
		{-5, [5]int{-3, -2, -2, -2, -2}}, {-3, [5]int{-2, -1, -1, -1, -2}}, {-1, [5]int{-1, 0, 0, 0, 0}},
		{1, [5]int{0, 1, 0, 1, 0}}, {3, [5]int{1, 2, 1, 2, 2}}, {5, [5]int{2, 3, 2, 3, 2}},
		{most - 1, [5]int{499999999, 500000000, 499999999, 500000000, 500000000}},
		{1 - most, [5]int{-500000000, -499999999, -499999999, -499999999, -500000000}},
	} {
		for _, m := range modes() {
			if n, e := frac.Round(f(c.num, 2), m); n != c.want[m] || e != api.OK {
				t.Error(c.num, m, n, e)
			}
		}
	}
}

func badModes() []api.Mode { return []api.Mode{-1, 5, 6, math.MinInt, math.MaxInt} }

// P1.3
func TestRoundRefusesInvalid(t *testing.T) {
	for _, m := range modes() {
		for _, bad := range invalid() {
			if n, e := frac.Round(bad, m); n != 0 || e != api.ErrArg {
				t.Error(bad, m, n, e)
			}
			same(t, "RoundTo", got(frac.RoundTo(bad, f(1, 2), m)), fails(api.ErrArg))
			same(t, "RoundTo", got(frac.RoundTo(f(1, 2), bad, m)), fails(api.ErrArg))
		}
		for _, unit := range []api.Frac{f(0, 1), f(-1, 2), f(-most, 1)} {
			same(t, "RoundTo", got(frac.RoundTo(f(29, 4), unit, m)), fails(api.ErrArg))
		}
	}
	for _, m := range badModes() {
		if n, e := frac.Round(f(-7, 2), m); n != 0 || e != api.ErrArg {
			t.Error(m, n, e)
		}
		same(t, "RoundTo", got(frac.RoundTo(f(29, 4), f(1, 2), m)), fails(api.ErrArg))
		same(t, "RoundTo", got(frac.RoundTo(f(most, 1), f(most-1, 1), m)), fails(api.ErrArg))
	}
}

func roundedTo(x, unit api.Frac, m api.Mode) *big.Rat {
	k := new(big.Rat).SetInt(rounded(new(big.Rat).Quo(rat(x), rat(unit)), m))
	return k.Mul(k, rat(unit))
}

// P1.3: RoundTo, also where the quotient is not representable
func TestRoundTo(t *testing.T) {
	for _, m := range modes() {
		for _, x := range append(small(9, 6), large()...) {
			for _, unit := range samples() {
				if unit.Num > 0 {
					same(t, fmt.Sprint("RoundTo ", x, unit, m), got(frac.RoundTo(x, unit, m)), got(exact(roundedTo(x, unit, m))))
				}
			}
		}
	}
}

// P1.3
func TestRoundToAtTheLimits(t *testing.T) {
	for _, c := range []struct {
		x, unit api.Frac
		m       api.Mode
		want    result
	}{
		{f(most, 1), f(1, most), api.Floor, ok(most, 1)},
		{f(-most, 1), f(1, most), api.HalfEven, ok(-most, 1)},
		{f(1, most), f(most, 1), api.Ceil, ok(most, 1)},
		{f(1, most), f(most, 1), api.Floor, ok(0, 1)},
		{f(-1, most), f(most, 1), api.Floor, ok(-most, 1)},
		{f(most, 1), f(most-1, 1), api.Ceil, fails(api.ErrRange)},
		{f(-most, 1), f(most-1, 1), api.Floor, fails(api.ErrRange)},
		{f(most, 1), f(most-1, most), api.Floor, fails(api.ErrRange)},
		{f(29, 4), f(1, 2), api.HalfUp, ok(15, 2)},
		{f(-29, 4), f(1, 2), api.HalfUp, ok(-7, 1)},
		{f(-31, 4), f(1, 2), api.HalfEven, ok(-8, 1)},
	} {
		same(t, fmt.Sprint("RoundTo ", c.x, c.unit, c.m), got(frac.RoundTo(c.x, c.unit, c.m)), c.want)
	}
}

// P1.14
func TestRoundToStaysNear(t *testing.T) {
	for _, m := range modes() {
		for _, x := range append(small(9, 6), large()...) {
			for _, unit := range samples() {
				if unit.Num <= 0 {
					continue
				}
				r, e := frac.RoundTo(x, unit, m)
				if e != api.OK {
					continue
				}
				off := new(big.Rat).Sub(rat(r), rat(x))
				off.Abs(off)
				half := new(big.Rat).Mul(rat(unit), big.NewRat(1, 2))
				if off.Cmp(rat(unit)) >= 0 || m >= api.HalfUp && off.Cmp(half) > 0 {
					t.Error(x, unit, m, r)
				}
			}
		}
	}
}
