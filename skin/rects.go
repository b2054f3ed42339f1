package skin

import "trank/api"

// Largest returns the usable rectangle with the most cells.
func Largest(s []string, g int) (api.Rect, api.Errno) {
	return best(s, g, func(tall, old api.Rect) api.Rect {
		more := tall.W*tall.H - old.W*old.H
		if more > 0 || more == 0 && tall.X == old.X && tall.Y == old.Y {
			return tall
		}
		return old
	})
}

// Square returns the greatest usable square.
func Square(s []string, g int) (api.Rect, api.Errno) {
	return best(s, g, func(tall, old api.Rect) api.Rect {
		side := min(tall.W, tall.H)
		if side > old.W {
			return api.Rect{X: tall.X, Y: tall.Y, W: side, H: side}
		}
		return old
	})
}

// best goes through the tall rectangles; better makes the new best one of a tall one and the old best one, which is empty at first.
func best(s []string, g int, better func(tall, old api.Rect) api.Rect) (api.Rect, api.Errno) {
	usable, e := leather(s, g)
	if e != api.OK {
		return api.Rect{}, e
	}
	var r api.Rect
	eachTall(s, usable, func(tall api.Rect) { r = better(tall, r) })
	if r.W == 0 {
		return api.Rect{}, api.ErrNone
	}
	return r, api.OK
}

// Maximal returns the usable rectangles that lie within no other one.
func Maximal(s []string, g int) ([]api.Rect, api.Errno) {
	usable, e := leather(s, g)
	if e != api.OK {
		return nil, e
	}
	t := tableOf(s, usable)
	var l []api.Rect
	eachTall(s, usable, func(tall api.Rect) {
		if !t.canGrow(tall) {
			l = append(l, tall)
		}
	})
	return l, api.OK
}

// canGrow reports whether a tall rectangle lies within a usable one that has one more column or row.
func (t *Table) canGrow(r api.Rect) bool {
	left, right, up := r, r, r
	left.X, left.W = r.X-1, r.W+1
	right.W = r.W + 1
	up.Y, up.H = r.Y-1, r.H+1
	return t.isUsable(left) || t.isUsable(right) || t.isUsable(up)
}

// eachTall visits all usable rectangles below which the leather does not go on, in the order of rectangles: all that lie within no other one are among them.
func eachTall(s []string, usable func(c cell) bool, visit func(tall api.Rect)) {
	deep := depths(s, usable)
	walk(s, func(c cell) {
		row := deep[c.y]
		low := row[c.x]
		for x := c.x; x < len(row) && row[x] > 0; x++ {
			low = min(low, row[x])
			visit(api.Rect{X: c.x, Y: c.y, W: x - c.x + 1, H: low})
		}
	})
}

// depths returns how many usable cells there are from each cell down to the first that is not usable.
func depths(s []string, usable func(c cell) bool) [][]int {
	w, h := size(s)
	deep := make([][]int, h+1)
	deep[h] = make([]int, w)
	for y := h - 1; y >= 0; y-- {
		deep[y] = make([]int, w)
		for x := range w {
			if usable(cell{x, y}) {
				deep[y][x] = deep[y+1][x] + 1
			}
		}
	}
	return deep
}
