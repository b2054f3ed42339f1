package frac_test

import (
	"cmp"
	"fmt"
	"math"
	"math/big"
	"testing"

	"trank/api"
	"trank/frac"
)

// P1.1
func TestValid(t *testing.T) {
	for _, x := range []api.Frac{f(0, 1), f(1, 1), f(-1, 2), f(27, 4), f(most, 1), f(-most, 1), f(1, most), f(-1, most), f(most, most-1), f(1-most, most)} {
		if !frac.Valid(x) {
			t.Error("not valid:", x)
		}
	}
	for _, x := range invalid() {
		if frac.Valid(x) {
			t.Error("valid:", x)
		}
	}
}

// P1.1
func TestNew(t *testing.T) {
	const least = math.MinInt
	for _, c := range []struct {
		num, den int
		want     result
	}{
		{6, -4, ok(-3, 2)}, {-6, -4, ok(3, 2)}, {0, 7, ok(0, 1)}, {0, -7, ok(0, 1)}, {5, 5, ok(1, 1)},
		{1, 0, fails(api.ErrZero)}, {0, 0, fails(api.ErrZero)}, {least, 0, fails(api.ErrZero)},
		{2000000000, 4, ok(500000000, 1)}, {1000000001, 1, fails(api.ErrRange)},
		{most, 1, ok(most, 1)}, {-most, 1, ok(-most, 1)}, {most, -1, ok(-most, 1)}, {1, most, ok(1, most)}, {1, -most, ok(-1, most)},
		{-most - 1, 1, fails(api.ErrRange)}, {1, most + 1, fails(api.ErrRange)}, {1, -most - 1, fails(api.ErrRange)},
		{2*most + 2, 2, fails(api.ErrRange)}, {2, 2*most + 2, fails(api.ErrRange)}, {2 * most, 2 * most, ok(1, 1)},
		{least, least, ok(1, 1)}, {least, 1, fails(api.ErrRange)}, {1, least, fails(api.ErrRange)}, {least, -1, fails(api.ErrRange)},
		{0, least, ok(0, 1)}, {least, 1 << 62, ok(-2, 1)}, {1 << 62, least, ok(-1, 2)}, {least, -1 << 62, ok(2, 1)},
		{least, math.MaxInt, fails(api.ErrRange)}, {math.MaxInt, least, fails(api.ErrRange)}, {math.MaxInt, math.MaxInt, ok(1, 1)},
		{-math.MaxInt, math.MaxInt, ok(-1, 1)}, {math.MaxInt, 9223372036, fails(api.ErrRange)}, {least, 1 << 34, ok(-536870912, 1)}, {1 << 34, least, ok(-1, 536870912)},
	} {
		same(t, fmt.Sprint("New ", c.num, c.den), got(frac.New(c.num, c.den)), c.want)
	}
	for num := -30; num <= 30; num++ {
		for den := -30; den <= 30; den++ {
			if den != 0 {
				same(t, fmt.Sprint("New ", num, den), got(frac.New(num, den)), got(exact(big.NewRat(int64(num), int64(den)))))
			}
		}
	}
}

// P1.1
func TestWhole(t *testing.T) {
	for _, n := range []int{0, 1, -1, 12, most, -most, most + 1, -most - 1, math.MinInt, math.MaxInt} {
		same(t, fmt.Sprint("Whole ", n), got(frac.Whole(n)), got(exact(new(big.Rat).SetInt64(int64(n)))))
	}
}

type binary struct {
	name string
	call func(a, b api.Frac) (api.Frac, api.Errno)
	want func(z, a, b *big.Rat) *big.Rat
}

func binaries() []binary {
	return []binary{
		{"Add", frac.Add, (*big.Rat).Add},
		{"Sub", frac.Sub, (*big.Rat).Sub},
		{"Mul", frac.Mul, (*big.Rat).Mul},
		{"Div", frac.Div, (*big.Rat).Quo},
		{"Mediant", frac.Mediant, func(z, a, b *big.Rat) *big.Rat {
			num, den := new(big.Int).Add(a.Num(), b.Num()), new(big.Int).Add(a.Denom(), b.Denom())
			return z.SetFrac(num, den)
		}},
	}
}

// P1.2, P1.8, P2 (exact)
func TestArithmeticIsExact(t *testing.T) {
	for _, op := range binaries() {
		for _, a := range samples() {
			for _, b := range samples() {
				want := fails(api.ErrZero)
				if op.name != "Div" || b.Num != 0 {
					want = got(exact(op.want(new(big.Rat), rat(a), rat(b))))
				}
				same(t, fmt.Sprint(op.name, a, b), got(op.call(a, b)), want)
			}
		}
	}
}

// P1.2
func TestArithmeticAtTheLimits(t *testing.T) {
	for _, c := range []struct {
		what       string
		have, want result
	}{
		{"Add", got(frac.Add(f(most, 1), f(1, 1))), fails(api.ErrRange)},
		{"Add", got(frac.Add(f(most-1, 1), f(1, 1))), ok(most, 1)},
		{"Add", got(frac.Add(f(1, most), f(-1, most))), ok(0, 1)},
		{"Add", got(frac.Add(f(1, most), f(1, most-1))), fails(api.ErrRange)},
		{"Sub", got(frac.Sub(f(-most, 1), f(1, 1))), fails(api.ErrRange)},
		{"Sub", got(frac.Sub(f(most, most-1), f(most, most-1))), ok(0, 1)},
		{"Mul", got(frac.Mul(f(most, most-1), f(most-1, most))), ok(1, 1)},
		{"Mul", got(frac.Mul(f(1, 2), f(1, most))), fails(api.ErrRange)},
		{"Mul", got(frac.Mul(f(-most, 1), f(-most, 1))), fails(api.ErrRange)},
		{"Mul", got(frac.Mul(f(most/2, 1), f(-2, 1))), ok(-most, 1)},
		{"Div", got(frac.Div(f(1, 2), f(-3, 4))), ok(-2, 3)},
		{"Div", got(frac.Div(f(-1, most), f(-1, most))), ok(1, 1)},
		{"Div", got(frac.Div(f(1, most), f(most, 1))), fails(api.ErrRange)},
		{"Div", got(frac.Div(f(1, 1), f(0, 1))), fails(api.ErrZero)},
		{"Div", got(frac.Div(f(0, 1), f(0, 1))), fails(api.ErrZero)},
		{"Div", got(frac.Div(f(0, 1), f(-5, 1))), ok(0, 1)},
		{"Mediant", got(frac.Mediant(f(1, 2), f(1, 3))), ok(2, 5)},
		{"Mediant", got(frac.Mediant(f(-1, 2), f(1, 2))), ok(0, 1)},
		{"Mediant", got(frac.Mediant(f(most, 1), f(most, 1))), ok(most, 1)},
		{"Mediant", got(frac.Mediant(f(most, 1), f(most-1, 1))), fails(api.ErrRange)},
		{"Mediant", got(frac.Mediant(f(1, most), f(1, most-1))), fails(api.ErrRange)},
	} {
		same(t, c.what, c.have, c.want)
	}
}

// P1.2: Cmp
func TestCmp(t *testing.T) {
	for _, a := range samples() {
		for _, b := range samples() {
			if n, e := frac.Cmp(a, b); n != rat(a).Cmp(rat(b)) || e != api.OK {
				t.Error(a, b, n, e)
			}
		}
	}
	if n, e := frac.Cmp(f(most, most-1), f(most-1, most-2)); n != -1 || e != api.OK {
		t.Error(n, e)
	}
}

// P1.2: Neg, Abs
func TestNegAbs(t *testing.T) {
	for _, a := range samples() {
		same(t, fmt.Sprint("Neg ", a), got(frac.Neg(a)), ok(-a.Num, a.Den))
		same(t, fmt.Sprint("Abs ", a), got(frac.Abs(a)), ok(a.Num*cmp.Compare(a.Num, 0), a.Den))
	}
}

// P1.2, P1.8: ErrArg precedes ErrZero and ErrRange.
func TestArithmeticRefusesInvalid(t *testing.T) {
	for _, bad := range invalid() {
		for _, good := range []api.Frac{f(0, 1), f(-1, 2), f(most, 1)} {
			for _, op := range binaries() {
				same(t, op.name, got(op.call(bad, good)), fails(api.ErrArg))
				same(t, op.name, got(op.call(good, bad)), fails(api.ErrArg))
				same(t, op.name, got(op.call(bad, bad)), fails(api.ErrArg))
			}
			if n, e := frac.Cmp(bad, good); n != 0 || e != api.ErrArg {
				t.Error(bad, good, n, e)
			}
			if n, e := frac.Cmp(good, bad); n != 0 || e != api.ErrArg {
				t.Error(good, bad, n, e)
			}
		}
		same(t, "Neg", got(frac.Neg(bad)), fails(api.ErrArg))
		same(t, "Abs", got(frac.Abs(bad)), fails(api.ErrArg))
	}
}
