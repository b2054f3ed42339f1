package frac

import (
	"cmp"
	"slices"

	"trank/api"
)

const maxWeight = 1000000 // of Blend

// Sum returns the sum of a slice.
func Sum(l []api.Frac) (api.Frac, api.Errno) {
	if len(l) > api.MaxTerms {
		return api.Frac{}, api.ErrSize
	}
	if !allValid(l...) {
		return api.Frac{}, api.ErrArg
	}
	t := wholeFrac(0)
	for _, f := range l {
		var e api.Errno
		t, e = Add(t, f)
		if e != api.OK {
			return api.Frac{}, e
		}
	}
	return t, api.OK
}

// Blend returns the mean of a slice with weights.
func Blend(l []api.Frac, w []int) (api.Frac, api.Errno) {
	if len(l) > api.MaxTerms || len(w) > api.MaxTerms {
		return api.Frac{}, api.ErrSize
	}
	if len(l) != len(w) || !allValid(l...) || !areWeights(w, maxWeight) {
		return api.Frac{}, api.ErrArg
	}
	all := total(w)
	if all == 0 {
		return api.Frac{}, api.ErrZero
	}
	t := wholeFrac(0)
	for i, f := range l {
		p, e := Mul(f, wholeFrac(w[i]))
		if e == api.OK {
			t, e = Add(t, p)
		}
		if e != api.OK {
			return api.Frac{}, e
		}
	}
	return Div(t, wholeFrac(all))
}

// wholeFrac is Whole of a number that is known to be representable.
func wholeFrac(n int) api.Frac { return api.Frac{Num: n, Den: 1} }

// Share distributes n pieces in proportion to weights.
func Share(n int, w []int) ([]int, api.Errno) {
	if len(w) > api.MaxTerms {
		return nil, api.ErrSize
	}
	if n < 0 || n > api.MaxPart || !areWeights(w, api.MaxPart) {
		return nil, api.ErrArg
	}
	all := total(w)
	if all == 0 {
		return nil, api.ErrZero
	}
	shares, left := make([]int, len(w)), n
	for i, x := range w {
		shares[i] = n * x / all
		left -= shares[i]
	}
	for _, i := range byRemainder(n, w, all)[:left] {
		shares[i]++
	}
	return shares, api.OK
}

// byRemainder returns the positions by falling remainder of n*w[i]/all; the sort is stable, so the earlier of two equal ones stays first.
func byRemainder(n int, w []int, all int) []int {
	order := make([]int, len(w))
	for i := range order {
		order[i] = i
	}
	slices.SortStableFunc(order, func(i, j int) int {
		return cmp.Compare(n*w[j]%all, n*w[i]%all)
	})
	return order
}

func areWeights(w []int, most int) bool {
	for _, x := range w {
		if x < 0 || x > most {
			return false
		}
	}
	return true
}

func total(w []int) int {
	t := 0
	for _, x := range w {
		t += x
	}
	return t
}
