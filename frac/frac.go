// Package frac is exact arithmetic on fractions whose parts are bounded: see shared/doc/01-frac.md.
package frac

import "trank/api"

// Valid reports whether f is a fraction in lowest terms within the limits.
func Valid(f api.Frac) bool {
	if f.Den < 1 || f.Den > api.MaxPart || f.Num < -api.MaxPart || f.Num > api.MaxPart {
		return false
	}
	return gcd(size(f.Num), size(f.Den)) == 1
}

func allValid(l ...api.Frac) bool {
	for _, f := range l {
		if !Valid(f) {
			return false
		}
	}
	return true
}

// New returns the fraction of the value num/den.
func New(num, den int) (api.Frac, api.Errno) {
	if den == 0 {
		return api.Frac{}, api.ErrZero
	}
	return ratio{num, den}.frac()
}

// Whole returns the fraction of the value n.
func Whole(n int) (api.Frac, api.Errno) { return New(n, 1) }

// Cmp compares two fractions.
func Cmp(a, b api.Frac) (int, api.Errno) {
	if !allValid(a, b) {
		return 0, api.ErrArg
	}
	return of(a).compare(of(b)), api.OK
}

// Add returns the sum.
func Add(a, b api.Frac) (api.Frac, api.Errno) { return combine(a, b, ratio.plus) }

// Sub returns the difference.
func Sub(a, b api.Frac) (api.Frac, api.Errno) { return combine(a, b, ratio.minus) }

// Mul returns the product.
func Mul(a, b api.Frac) (api.Frac, api.Errno) { return combine(a, b, ratio.times) }

// Div returns the quotient.
func Div(a, b api.Frac) (api.Frac, api.Errno) {
	if allValid(a, b) && b.Num == 0 {
		return api.Frac{}, api.ErrZero
	}
	return combine(a, b, ratio.over)
}

func combine(a, b api.Frac, op func(r, s ratio) ratio) (api.Frac, api.Errno) {
	if !allValid(a, b) {
		return api.Frac{}, api.ErrArg
	}
	return op(of(a), of(b)).frac()
}

// Neg returns the fraction with the other sign.
func Neg(a api.Frac) (api.Frac, api.Errno) {
	if !Valid(a) {
		return api.Frac{}, api.ErrArg
	}
	return of(a).neg().frac()
}

// Abs returns the absolute value.
func Abs(a api.Frac) (api.Frac, api.Errno) {
	if !Valid(a) {
		return api.Frac{}, api.ErrArg
	}
	if a.Num < 0 {
		return Neg(a)
	}
	return a, api.OK
}

// Mediant returns the mediant.
func Mediant(a, b api.Frac) (api.Frac, api.Errno) {
	return combine(a, b, func(r, s ratio) ratio { return r.mediant(1, s) })
}

// Round returns the whole number to which f is rounded.
func Round(f api.Frac, m api.Mode) (int, api.Errno) {
	if !Valid(f) || !isMode(m) {
		return 0, api.ErrArg
	}
	return of(f).round(m), api.OK
}

// RoundTo returns the multiple of unit to which f is rounded.
func RoundTo(f, unit api.Frac, m api.Mode) (api.Frac, api.Errno) {
	if !allValid(f, unit) || unit.Num <= 0 || !isMode(m) {
		return api.Frac{}, api.ErrArg
	}
	k := of(f).over(of(unit)).round(m)
	// k units lie within one unit of f, so k*unit.Num is at most about the 10^18 of f.Num*unit.Den.
	return ratio{k * unit.Num, unit.Den}.frac()
}

func isMode(m api.Mode) bool { return m >= api.Floor && m <= api.HalfEven }
