package frac

import "trank/api"

// Terms returns the continued fraction.
func Terms(f api.Frac) ([]int, api.Errno) {
	if !Valid(f) {
		return nil, api.ErrArg
	}
	var l []int
	for r := of(f); r.den != 0; {
		n := r.floor()
		l = append(l, n)
		r = ratio{r.den, r.num - n*r.den}
	}
	return l, api.OK
}

// FromTerms returns the fraction of a continued fraction.
func FromTerms(l []int) (api.Frac, api.Errno) {
	if len(l) > api.MaxTerms {
		return api.Frac{}, api.ErrSize
	}
	if !areTerms(l) {
		return api.Frac{}, api.ErrArg
	}
	// r is the value of the terms behind i. Its num is at least the first of these terms and at most the Den of the result, so what is above MaxPart once stays so; and a first term beyond MaxPart is out of range with any rest.
	r := ratio{1, 0}
	for i := len(l) - 1; i >= 0; i-- {
		if size(l[i]) > api.MaxPart || r.num > api.MaxPart {
			return api.Frac{}, api.ErrRange
		}
		r = ratio{l[i]*r.num + r.den, r.num}
	}
	return r.frac()
}

func areTerms(l []int) bool {
	if len(l) == 0 || len(l) > 1 && l[len(l)-1] == 1 {
		return false
	}
	for _, n := range l[1:] {
		if n < 1 {
			return false
		}
	}
	return true
}

// Below returns the greatest fraction not above f whose denominator is at most d.
func Below(f api.Frac, d int) (api.Frac, api.Errno) {
	if !isBounded(f, d) {
		return api.Frac{}, api.ErrArg
	}
	lo, _ := of(f).neighbours(d)
	return lo.frac()
}

// Above returns the least fraction not below f whose denominator is at most d.
func Above(f api.Frac, d int) (api.Frac, api.Errno) {
	if !isBounded(f, d) {
		return api.Frac{}, api.ErrArg
	}
	_, hi := of(f).neighbours(d)
	return hi.frac()
}

// Near returns the nearer one of Below and Above.
func Near(f api.Frac, d int) (api.Frac, api.Errno) {
	if !isBounded(f, d) {
		return api.Frac{}, api.ErrArg
	}
	r := of(f)
	lo, hi := r.neighbours(d)
	if hi.minus(r).compare(r.minus(lo)) < 0 {
		return hi.frac()
	}
	return lo.frac()
}

func isBounded(f api.Frac, d int) bool {
	return Valid(f) && d >= 1 && d <= api.MaxPart
}

// Simplest returns the fraction from a to b with the least denominator.
func Simplest(a, b api.Frac) (api.Frac, api.Errno) {
	if !allValid(a, b) || of(a).compare(of(b)) > 0 {
		return api.Frac{}, api.ErrArg
	}
	switch {
	case a.Num > 0:
		return of(a).simplest(of(b)).frac()
	case b.Num < 0:
		return of(b).neg().simplest(of(a).neg()).neg().frac()
	}
	return wholeFrac(0), api.OK
}
