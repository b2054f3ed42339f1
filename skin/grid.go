package skin

import (
	"slices"

	"trank/api"
)

// cell is a place of the grid, within a skin or beyond its edge; also a step from one cell to another.
type cell struct{ x, y int }

func (c cell) plus(step cell) cell { return cell{c.x + step.x, c.y + step.y} }

func (c cell) minus(step cell) cell { return cell{c.x - step.x, c.y - step.y} }

func size(s []string) (w, h int) { return len(s[0]), len(s) }

// gradeAt is 0 beyond the edge of the skin.
func gradeAt(s []string, c cell) int {
	w, h := size(s)
	if c.x < 0 || c.x >= w || c.y < 0 || c.y >= h {
		return 0
	}
	return int(s[c.y][c.x] - '0')
}

// walk visits all cells of a skin in their order.
func walk(s []string, visit func(c cell)) {
	w, h := size(s)
	for y := range h {
		for x := range w {
			visit(cell{x, y})
		}
	}
}

// draw makes a skin of w by h cells.
func draw(w, h int, grade func(c cell) int) []string {
	s := make([]string, h)
	for y := range s {
		row := make([]byte, w)
		for x := range row {
			row[x] = '0' + byte(grade(cell{x, y}))
		}
		s[y] = string(row)
	}
	return s
}

// leather tells which cells are usable; it refuses what is no skin or no least grade.
func leather(s []string, g int) (func(c cell) bool, api.Errno) {
	if !Valid(s) || g < 1 || g > maxGrade {
		return nil, api.ErrArg
	}
	return func(c cell) bool { return gradeAt(s, c) >= g }, api.OK
}

func isRect(r api.Rect) bool { return r.X >= 0 && r.Y >= 0 && r.W >= 1 && r.H >= 1 }

// liesWithin subtracts, because sums of the parts of a rectangle may overflow.
func liesWithin(r api.Rect, w, h int) bool {
	return r.W <= w && r.X <= w-r.W && r.H <= h && r.Y <= h-r.H
}

func checkRect(s []string, r api.Rect) api.Errno {
	if !Valid(s) || !isRect(r) {
		return api.ErrArg
	}
	if w, h := size(s); !liesWithin(r, w, h) {
		return api.ErrRange
	}
	return api.OK
}

// Turn returns the skin turned clockwise by k quarter turns.
func Turn(s []string, k int) ([]string, api.Errno) {
	if !Valid(s) {
		return nil, api.ErrArg
	}
	turned := slices.Clone(s)
	// The remainder is negative if k is.
	for range (k%4 + 4) % 4 {
		turned = quarter(turned)
	}
	return turned, api.OK
}

func quarter(s []string) []string {
	w, h := size(s)
	return draw(h, w, func(c cell) int { return gradeAt(s, cell{c.y, h - 1 - c.x}) })
}

// Mirror returns the skin with each row reversed.
func Mirror(s []string) ([]string, api.Errno) {
	if !Valid(s) {
		return nil, api.ErrArg
	}
	w, h := size(s)
	return draw(w, h, func(c cell) int { return gradeAt(s, cell{w - 1 - c.x, c.y}) }), api.OK
}

// Crop returns the cells of r.
func Crop(s []string, r api.Rect) ([]string, api.Errno) {
	if e := checkRect(s, r); e != api.OK {
		return nil, e
	}
	corner := cell{r.X, r.Y}
	return draw(r.W, r.H, func(c cell) int { return gradeAt(s, c.plus(corner)) }), api.OK
}

// Punch returns the skin without the cells of r.
func Punch(s []string, r api.Rect) ([]string, api.Errno) {
	if e := checkRect(s, r); e != api.OK {
		return nil, e
	}
	w, h := size(s)
	return draw(w, h, func(c cell) int {
		if r.X <= c.x && c.x < r.X+r.W && r.Y <= c.y && c.y < r.Y+r.H {
			return 0
		}
		return gradeAt(s, c)
	}), api.OK
}

// Trim returns the least rectangle that has all leather.
func Trim(s []string) (api.Rect, api.Errno) {
	if !Valid(s) {
		return api.Rect{}, api.ErrArg
	}
	var l []cell
	walk(s, func(c cell) {
		if gradeAt(s, c) > 0 {
			l = append(l, c)
		}
	})
	if len(l) == 0 {
		return api.Rect{}, api.ErrNone
	}
	return box(l), api.OK
}

// box is the least rectangle that has all cells of l, of which there is one at least.
func box(l []cell) api.Rect {
	low, high := l[0], l[0]
	for _, c := range l {
		low = cell{min(low.x, c.x), min(low.y, c.y)}
		high = cell{max(high.x, c.x), max(high.y, c.y)}
	}
	return api.Rect{X: low.x, Y: low.y, W: high.x - low.x + 1, H: high.y - low.y + 1}
}
