package curve

import (
	"slices"

	"trank/api"
	"trank/frac"
)

// steps makes calls of frac one after another and keeps the first error. From then on it makes no more of them, and every result is a zero value.
type steps struct{ err api.Errno }

// operation is a call of frac, such as frac.Add.
type operation func(a, b api.Frac) (api.Frac, api.Errno)

func (s *steps) do(op operation, a, b api.Frac) api.Frac {
	if s.err != api.OK {
		return api.Frac{}
	}
	f, e := op(a, b)
	s.err = e
	return f
}

func (s *steps) add(a, b api.Frac) api.Frac { return s.do(frac.Add, a, b) }

func (s *steps) sub(a, b api.Frac) api.Frac { return s.do(frac.Sub, a, b) }

func (s *steps) mul(a, b api.Frac) api.Frac { return s.do(frac.Mul, a, b) }

func (s *steps) div(a, b api.Frac) api.Frac { return s.do(frac.Div, a, b) }

// slope is that of the line from p to q.
func (s *steps) slope(p, q api.Point) api.Frac {
	return s.div(s.sub(q.Y, p.Y), s.sub(q.X, p.X))
}

// along returns the curve as a function of the numbers in its domain. The function's calls of frac are among the steps.
func (s *steps) along(c []api.Point) func(x api.Frac) api.Frac {
	return func(x api.Frac) api.Frac {
		i, isPoint := slices.BinarySearchFunc(c, x, func(p api.Point, x api.Frac) int { return order(p.X, x) })
		if isPoint {
			return c[i].Y
		}
		from := c[i-1]
		return s.add(from.Y, s.mul(s.sub(x, from.X), s.slope(from, c[i])))
	}
}

// result returns c if no step has failed.
func (s *steps) result(c []api.Point) ([]api.Point, api.Errno) {
	if s.err != api.OK {
		return nil, s.err
	}
	return c, api.OK
}

// plot returns the normal curve through the points that belong to the numbers of l.
func (s *steps) plot(l []api.Frac, point func(x api.Frac) api.Point) ([]api.Point, api.Errno) {
	c := collect(l, point)
	if s.err != api.OK {
		return nil, s.err
	}
	return Norm(c)
}

func collect[A, B any](l []A, f func(A) B) []B {
	r := make([]B, 0, len(l))
	for _, x := range l {
		r = append(r, f(x))
	}
	return r
}

// order compares two valid fractions.
func order(a, b api.Frac) int {
	c, _ := frac.Cmp(a, b)
	return c
}

func lesser(a, b api.Frac) api.Frac {
	if order(a, b) <= 0 {
		return a
	}
	return b
}

func greater(a, b api.Frac) api.Frac {
	if order(a, b) >= 0 {
		return a
	}
	return b
}

func isPositive(f api.Frac) bool { return frac.Valid(f) && f.Num > 0 }
