package curve

import "trank/api"

// Upper returns the pointwise maximum.
func Upper(a, b []api.Point) ([]api.Point, api.Errno) { return envelope(a, b, greater) }

// Lower returns the pointwise minimum.
func Lower(a, b []api.Point) ([]api.Point, api.Errno) { return envelope(a, b, lesser) }

// Crossings returns where two curves cross.
func Crossings(a, b []api.Point) ([]api.Frac, api.Errno) {
	g, e := gridOf(a, b)
	return g.crossings, e
}

func envelope(a, b []api.Point, pick func(y, z api.Frac) api.Frac) ([]api.Point, api.Errno) {
	g, e := gridOf(a, b)
	if e != api.OK {
		return nil, e
	}
	var s steps
	y, z := s.along(a), s.along(b)
	return s.plot(g.all, func(x api.Frac) api.Point { return api.Point{X: x, Y: pick(y(x), z(x))} })
}

// grid is where one of two curves bends or both cross, by rising X.
type grid struct {
	all, crossings []api.Frac
}

func gridOf(a, b []api.Point) (grid, api.Errno) {
	l, e := commonLoads(a, b)
	if e != api.OK {
		return grid{}, e
	}
	var s steps
	y, z := s.along(a), s.along(b)
	d := collect(l, func(x api.Frac) api.Frac { return s.sub(z(x), y(x)) })
	g := s.refine(l, d)
	if s.err != api.OK {
		return grid{}, s.err
	}
	if len(g.all) > api.MaxPoints {
		return grid{}, api.ErrSize
	}
	return g, api.OK
}

// refine makes the grid of the stops l, at which the second curve is d above the first one.
func (s *steps) refine(l, d []api.Frac) grid {
	var g grid
	last := len(l) - 1
	for i, x := range l {
		g.all = append(g.all, x)
		if i == last {
			break
		}
		if i > 0 && d[i].Num == 0 && areOpposite(d[i-1], d[i+1]) {
			g.crossings = append(g.crossings, x)
		}
		if areOpposite(d[i], d[i+1]) {
			u := s.add(x, s.mul(s.div(d[i], s.sub(d[i], d[i+1])), s.sub(l[i+1], x)))
			g.all = append(g.all, u)
			g.crossings = append(g.crossings, u)
		}
	}
	return g
}

func areOpposite(a, b api.Frac) bool {
	return a.Num < 0 && b.Num > 0 || a.Num > 0 && b.Num < 0
}
