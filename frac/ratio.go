package frac

import (
	"cmp"
	"math/bits"

	"trank/api"
)

// ratio is the rational number num/den, in lowest terms or not. Of valid fractions and of the sums, products and quotients of two of them both parts fit in an int, so these are computed first and made a fraction afterwards.
type ratio struct{ num, den int }

func of(f api.Frac) ratio { return ratio{f.Num, f.Den} }

func (r ratio) plus(s ratio) ratio {
	return ratio{r.num*s.den + s.num*r.den, r.den * s.den}
}

func (r ratio) minus(s ratio) ratio { return r.plus(s.neg()) }

func (r ratio) times(s ratio) ratio { return ratio{r.num * s.num, r.den * s.den} }

func (r ratio) over(s ratio) ratio { return ratio{r.num * s.den, r.den * s.num} }

func (r ratio) neg() ratio { return ratio{-r.num, r.den} }

// mediant counts s k times.
func (r ratio) mediant(k int, s ratio) ratio {
	return ratio{r.num + k*s.num, r.den + k*s.den}
}

// frac accepts every r whose den is not 0, the least int as a part included.
func (r ratio) frac() (api.Frac, api.Errno) {
	num, den := size(r.num), size(r.den)
	g := gcd(num, den)
	num, den = num/g, den/g
	if num > api.MaxPart || den > api.MaxPart {
		return api.Frac{}, api.ErrRange
	}
	f := api.Frac{Num: int(num), Den: int(den)}
	if (r.num < 0) != (r.den < 0) {
		f.Num = -f.Num
	}
	return f, api.OK
}

// compare needs a den above 0 in both. The parts of a difference may be as large as an int holds, so the cross products are taken in 128 bits.
func (r ratio) compare(s ratio) int {
	if c := cmp.Compare(sign(r.num), sign(s.num)); c != 0 {
		return c
	}
	rhi, rlo := bits.Mul64(size(r.num), size(s.den))
	shi, slo := bits.Mul64(size(s.num), size(r.den))
	c := cmp.Compare(rhi, shi)
	if c == 0 {
		c = cmp.Compare(rlo, slo)
	}
	return c * sign(r.num)
}

// floor needs a den above 0; so do the roundings that are built on it.
func (r ratio) floor() int {
	q := r.num / r.den
	if r.num%r.den < 0 {
		q--
	}
	return q
}

func (r ratio) round(m api.Mode) int {
	down := r.floor()
	rest := r.num - down*r.den
	if r.isRoundedUp(m, down, rest) {
		return down + 1
	}
	return down
}

// isRoundedUp compares rest with den - rest, for twice rest might not fit in an int.
func (r ratio) isRoundedUp(m api.Mode, down, rest int) bool {
	switch m {
	case api.Ceil:
		return rest > 0
	case api.Trunc:
		return rest > 0 && r.num < 0
	case api.HalfUp:
		return rest >= r.den-rest
	case api.HalfEven:
		return rest > r.den-rest || rest == r.den-rest && down%2 != 0
	}
	return false
}

// neighbours returns the nearest ratios on both sides of r whose den is at most d, or r twice if its own is. It needs r in lowest terms.
//
// It walks down the Stern-Brocot tree in strides, as long as the mediant of lo and hi still has a small enough den. below and above are the cross products of r with lo and with hi. Neither gets to 0: that bound would be r, whose den is above d. For the same reason the mediant is never r, so each round moves a bound.
func (r ratio) neighbours(d int) (lo, hi ratio) {
	if r.den <= d {
		return r, r
	}
	lo, hi = ratio{r.floor(), 1}, ratio{1, 0}
	below, above := r.num-lo.num*r.den, r.den
	for lo.den+hi.den <= d {
		k := min(above/below, (d-hi.den)/lo.den)
		hi, above = hi.mediant(k, lo), above-k*below
		k = min(below/above, (d-lo.den)/hi.den)
		lo, below = lo.mediant(k, hi), below-k*above
	}
	return lo, hi
}

// simplest returns the simplest ratio from r to s, where 0 < r <= s. If no whole number lies there, both have the same floor, and what is left of the simplest ratio is one over the simplest one of the inverses of what is left of r and s.
func (r ratio) simplest(s ratio) ratio {
	whole := ratio{r.round(api.Ceil), 1}
	if whole.compare(s) <= 0 {
		return whole
	}
	n := whole.num - 1
	t := ratio{s.den, s.num - n*s.den}.simplest(ratio{r.den, r.num - n*r.den})
	return ratio{n*t.num + t.den, t.num}
}

func sign(n int) int { return cmp.Compare(n, 0) }

// size is the absolute value as an unsigned number, for that of the least int is no int.
func size(n int) uint64 {
	if n < 0 {
		return -uint64(n)
	}
	return uint64(n)
}

func gcd(a, b uint64) uint64 {
	for b != 0 {
		a, b = b, a%b
	}
	return a
}
