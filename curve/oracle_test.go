package curve_test

import (
	"fmt"
	"math/big"
	"slices"

	"trank/api"
)

// The formulas of the chapter, in math/big: a result that is not representable ends them by a panic with the error.

func bounded(r *big.Rat) api.Frac {
	bound := big.NewInt(most)
	if r.Num().CmpAbs(bound) > 0 || r.Denom().Cmp(bound) > 0 {
		panic(api.ErrRange)
	}
	return f(int(r.Num().Int64()), int(r.Denom().Int64()))
}

func add(a, b api.Frac) api.Frac { return bounded(new(big.Rat).Add(rat(a), rat(b))) }
func sub(a, b api.Frac) api.Frac { return bounded(new(big.Rat).Sub(rat(a), rat(b))) }
func mul(a, b api.Frac) api.Frac { return bounded(new(big.Rat).Mul(rat(a), rat(b))) }
func div(a, b api.Frac) api.Frac { return bounded(new(big.Rat).Quo(rat(a), rat(b))) }

// reckon is the text of the result of formulas.
func reckon[T any](formulas func() T) (s string) {
	defer func() {
		if e, isError := recover().(api.Errno); isError {
			s = fails(e)
		}
	}()
	return fmt.Sprint(formulas())
}

func slopeOf(p, q api.Point) api.Frac { return div(sub(q.Y, p.Y), sub(q.X, p.X)) }

func slopesOf(c []api.Point) []api.Frac {
	l := []api.Frac{}
	for i := range len(c) - 1 {
		l = append(l, slopeOf(c[i], c[i+1]))
	}
	return l
}

func normOf(c []api.Point) []api.Point {
	s := slopesOf(c)
	r := []api.Point{c[0]}
	for i := 1; i < len(c)-1; i++ {
		if s[i-1] != s[i] {
			r = append(r, c[i])
		}
	}
	return append(r, c[len(c)-1])
}

func atOf(c []api.Point, x api.Frac) api.Frac {
	if x.Num < 0 || compare(x, end(c).X) > 0 {
		panic(api.ErrRange)
	}
	for _, p := range c {
		if p.X == x {
			return p.Y
		}
	}
	i := 0
	for compare(c[i+1].X, x) < 0 {
		i++
	}
	return add(c[i].Y, mul(sub(x, c[i].X), slopeOf(c[i], c[i+1])))
}

func end(c []api.Point) api.Point { return c[len(c)-1] }

func inverseOf(c []api.Point) []api.Point {
	l := []api.Point{}
	for _, p := range c {
		l = append(l, pt(p.Y, p.X))
	}
	return l
}

func scaleOf(c []api.Point, kx, ky api.Frac) []api.Point {
	l := []api.Point{}
	for _, p := range c {
		l = append(l, pt(mul(p.X, kx), mul(p.Y, ky)))
	}
	return l
}

func cutOf(c []api.Point, x api.Frac) []api.Point {
	y := atOf(c, x)
	l := []api.Point{}
	for _, p := range c {
		if compare(p.X, x) < 0 {
			l = append(l, p)
		}
	}
	return append(l, pt(x, y))
}

func joinOf(a, b []api.Point) []api.Point {
	if len(a)+len(b) > 49 {
		panic(api.ErrSize)
	}
	l := slices.Clone(a)
	for _, p := range b[1:] {
		l = append(l, pt(add(end(a).X, p.X), add(end(a).Y, p.Y)))
	}
	return l
}

// stopsOf are the different numbers of l up to m.
func stopsOf(l []api.Frac, m api.Frac) []api.Frac {
	var r []api.Frac
	for _, x := range l {
		if compare(x, m) <= 0 && !slices.Contains(r, x) {
			r = append(r, x)
		}
	}
	slices.SortFunc(r, compare)
	if len(r) > 48 {
		panic(api.ErrSize)
	}
	return r
}

func least(a, b api.Frac) api.Frac {
	if compare(a, b) < 0 {
		return a
	}
	return b
}

func common(a, b []api.Point) []api.Frac {
	var l []api.Frac
	for _, p := range slices.Concat(a, b) {
		l = append(l, p.X)
	}
	return stopsOf(l, least(end(a).X, end(b).X))
}

func sumOf(a, b []api.Point) []api.Point {
	l := []api.Point{}
	for _, x := range common(a, b) {
		l = append(l, pt(x, add(atOf(a, x), atOf(b, x))))
	}
	return normOf(l)
}

func seriesOf(a, b []api.Point) []api.Point { return inverseOf(sumOf(inverseOf(a), inverseOf(b))) }

func composeOf(a, b []api.Point) []api.Point {
	var l []api.Frac
	for _, p := range a {
		l = append(l, p.X)
	}
	for _, p := range b {
		l = append(l, p.Y)
	}
	r := []api.Point{}
	for _, t := range stopsOf(l, least(end(a).X, end(b).Y)) {
		r = append(r, pt(atOf(inverseOf(b), t), atOf(a, t)))
	}
	return normOf(r)
}

// gridOf returns the grid and the crossings.
func gridOf(a, b []api.Point) (all, crossings []api.Frac) {
	x := common(a, b)
	d := make([]api.Frac, len(x))
	for i := range x {
		d[i] = sub(atOf(b, x[i]), atOf(a, x[i]))
	}
	sign := func(i int) int { return rat(d[i]).Sign() }
	all = slices.Clone(x)
	for i := range len(x) - 1 {
		if sign(i)*sign(i+1) == -1 {
			u := add(x[i], mul(div(d[i], sub(d[i], d[i+1])), sub(x[i+1], x[i])))
			all = append(all, u)
			crossings = append(crossings, u)
		}
		if i > 0 && sign(i) == 0 && sign(i-1)*sign(i+1) == -1 {
			crossings = append(crossings, x[i])
		}
	}
	if len(all) > 48 {
		panic(api.ErrSize)
	}
	slices.SortFunc(all, compare)
	slices.SortFunc(crossings, compare)
	return all, crossings
}

func envelopeOf(a, b []api.Point, sign int) []api.Point {
	all, _ := gridOf(a, b)
	l := []api.Point{}
	for _, u := range all {
		y, z := atOf(a, u), atOf(b, u)
		if compare(y, z) == sign {
			l = append(l, pt(u, y))
		} else {
			l = append(l, pt(u, z))
		}
	}
	return normOf(l)
}

func underOf(a, b []api.Point) bool {
	under := true
	for _, x := range common(a, b) {
		if compare(atOf(a, x), atOf(b, x)) > 0 {
			under = false
		}
	}
	return under
}

func sameOf(a, b []api.Point) bool { return slices.Equal(normOf(a), normOf(b)) }

// hullOf returns the points of which the sign of the turn is sign from each before them to each after them.
func hullOf(c []api.Point, sign int) []api.Point {
	l := []api.Point{}
	for k := range c {
		isCorner := true
		for i := range k {
			for j := k + 1; j < len(c); j++ {
				if compare(slopeOf(c[k], c[j]), slopeOf(c[i], c[k])) != sign {
					isCorner = false
				}
			}
			slopeOf(c[i], c[k]) // its error counts where no point is after k
		}
		if isCorner {
			l = append(l, c[k])
		}
	}
	return l
}

func workOf(c []api.Point, x api.Frac) api.Frac {
	if x.Num < 0 || compare(x, end(c).X) > 0 {
		panic(api.ErrRange)
	}
	w := n(0)
	for i := range len(c) - 1 {
		p, q, r, s := c[i].X, c[i].Y, c[i+1].X, c[i+1].Y
		if compare(r, x) <= 0 {
			w = add(w, mul(div(add(q, s), n(2)), sub(r, p)))
		} else if compare(p, x) < 0 {
			w = add(w, mul(div(add(q, atOf(c, x)), n(2)), sub(x, p)))
		}
	}
	return w
}
