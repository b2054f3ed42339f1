package skin

import "trank/api"

// Part is a connected part of the usable cells.
type Part struct {
	Cells, Edge, Holes int
	Box                api.Rect
}

// Parts returns the connected parts of the usable cells.
func Parts(s []string, g int) ([]Part, api.Errno) {
	usable, e := leather(s, g)
	if e != api.OK {
		return nil, e
	}
	var l []Part
	seen := map[cell]bool{}
	walk(s, func(c cell) {
		if usable(c) && !seen[c] {
			l = append(l, measure(connected(c, usable, seen), usable))
		}
	})
	return l, api.OK
}

// connected returns the cells of the part of c, and adds them to those that were seen.
func connected(c cell, usable func(c cell) bool, seen map[cell]bool) []cell {
	l := []cell{c}
	seen[c] = true
	for i := 0; i < len(l); i++ {
		for _, step := range [4]cell{{1, 0}, {-1, 0}, {0, 1}, {0, -1}} {
			next := l[i].plus(step)
			if usable(next) && !seen[next] {
				seen[next] = true
				l = append(l, next)
			}
		}
	}
	return l
}

// measure does without a search for the holes: by Euler's formula, the cells of one part less its pairs of neighbours plus its squares of four cells are 1 less its holes.
func measure(l []cell, usable func(c cell) bool) Part {
	pairs, squares := 0, 0
	for _, c := range l {
		right, below := usable(c.plus(cell{1, 0})), usable(c.plus(cell{0, 1}))
		if right {
			pairs++
		}
		if below {
			pairs++
		}
		if right && below && usable(c.plus(cell{1, 1})) {
			squares++
		}
	}
	n := len(l)
	return Part{Cells: n, Edge: 4*n - 2*pairs, Holes: 1 - n + pairs - squares, Box: box(l)}
}
