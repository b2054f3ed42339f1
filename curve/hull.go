package curve

import "trank/api"

// Convex returns the greatest convex function that is nowhere above c.
func Convex(c []api.Point) ([]api.Point, api.Errno) {
	return hull(c, func(a, b api.Frac) bool { return order(a, b) <= 0 })
}

// Concave returns the least concave function that is nowhere below c.
func Concave(c []api.Point) ([]api.Point, api.Errno) {
	return hull(c, func(a, b api.Frac) bool { return order(a, b) >= 0 })
}

// hull goes from corner to corner, from each of them to the last of the points to which no other slope leads better. It computes the slopes between all points, for each of their errors counts.
func hull(c []api.Point, leads func(a, b api.Frac) bool) ([]api.Point, api.Errno) {
	if !Valid(c) {
		return nil, api.ErrArg
	}
	var s steps
	var corners []api.Point
	corner := 0
	for i, p := range c {
		next, best := i, api.Frac{}
		for j := i + 1; j < len(c); j++ {
			m := s.slope(p, c[j])
			if next == i || leads(m, best) {
				next, best = j, m
			}
		}
		if i == corner {
			corners = append(corners, p)
			corner = next
		}
	}
	return s.result(corners)
}
