package skin

import "trank/api"

// Table counts usable cells of rectangles.
type Table struct {
	// sums[y][x] is how many usable cells lie above y and left of x.
	sums [][]int
}

// NewTable returns the table of a skin.
func NewTable(s []string, g int) (*Table, api.Errno) {
	usable, e := leather(s, g)
	if e != api.OK {
		return nil, e
	}
	return tableOf(s, usable), api.OK
}

func tableOf(s []string, usable func(c cell) bool) *Table {
	w, h := size(s)
	t := &Table{make([][]int, h+1)}
	for y := range t.sums {
		t.sums[y] = make([]int, w+1)
	}
	walk(s, func(c cell) {
		above, below := t.sums[c.y], t.sums[c.y+1]
		below[c.x+1] = below[c.x] + above[c.x+1] - above[c.x]
		if usable(c) {
			below[c.x+1]++
		}
	})
	return t
}

// Count returns how many cells of r are usable.
func (t *Table) Count(r api.Rect) (int, api.Errno) {
	if t == nil || t.sums == nil {
		return 0, api.ErrNil
	}
	if !isRect(r) {
		return 0, api.ErrArg
	}
	if !liesWithin(r, len(t.sums[0])-1, len(t.sums)-1) {
		return 0, api.ErrRange
	}
	above, below := t.sums[r.Y], t.sums[r.Y+r.H]
	return below[r.X+r.W] - below[r.X] - above[r.X+r.W] + above[r.X], api.OK
}

func (t *Table) isUsable(r api.Rect) bool {
	n, e := t.Count(r)
	return e == api.OK && n == r.W*r.H
}
