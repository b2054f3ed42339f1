package curve

import (
	"slices"

	"trank/api"
)

// Sum returns the pointwise sum.
func Sum(a, b []api.Point) ([]api.Point, api.Errno) {
	l, e := commonLoads(a, b)
	if e != api.OK {
		return nil, e
	}
	var s steps
	f, g := s.along(a), s.along(b)
	return s.plot(l, func(x api.Frac) api.Point { return api.Point{X: x, Y: s.add(f(x), g(x))} })
}

// Series returns the curve of two strips in series.
func Series(a, b []api.Point) ([]api.Point, api.Errno) {
	c, e := Sum(exchange(a), exchange(b))
	return exchange(c), e
}

// Compose returns the function a(b(x)).
func Compose(a, b []api.Point) ([]api.Point, api.Errno) {
	if !Valid(a) || !Valid(b) {
		return nil, api.ErrArg
	}
	back := exchange(b)
	l, e := stops(a, back)
	if e != api.OK {
		return nil, e
	}
	var s steps
	f, g := s.along(a), s.along(back)
	return s.plot(l, func(t api.Frac) api.Point { return api.Point{X: g(t), Y: f(t)} })
}

// Under reports whether a is nowhere above b.
func Under(a, b []api.Point) (bool, api.Errno) {
	l, e := commonLoads(a, b)
	if e != api.OK {
		return false, e
	}
	var s steps
	f, g := s.along(a), s.along(b)
	under := true
	for _, x := range l {
		// Both values are computed even when the answer is known: their errors count.
		y, z := f(x), g(x)
		under = under && order(y, z) <= 0
	}
	return under && s.err == api.OK, s.err
}

// commonLoads returns the stops of two curves.
func commonLoads(a, b []api.Point) ([]api.Frac, api.Errno) {
	if !Valid(a) || !Valid(b) {
		return nil, api.ErrArg
	}
	return stops(a, b)
}

// stops returns all different X of points of a and of b that are in both domains, by rising X: between two neighbours both curves are linear.
func stops(a, b []api.Point) ([]api.Frac, api.Errno) {
	end := lesser(a[len(a)-1].X, b[len(b)-1].X)
	l := collect(slices.Concat(a, b), func(p api.Point) api.Frac { return p.X })
	l = slices.DeleteFunc(l, func(x api.Frac) bool { return order(x, end) > 0 })
	slices.SortFunc(l, order)
	l = slices.Compact(l)
	if len(l) > api.MaxPoints {
		return nil, api.ErrSize
	}
	return l, api.OK
}
