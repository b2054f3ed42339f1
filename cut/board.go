package cut

import (
	"trank/api"
	"trank/skin"
)

const (
	maxGrade = 9
	maxWorth = 1000000
	maxTurns = 32
)

// board is a board with the kinds that are cut from it. A table of it has a number for each rectangle.
type board struct {
	w, h  int
	kinds []Kind
	// usable counts, for each Grade of a kind, the cells that have it.
	usable map[int]*skin.Table
}

// lay refuses what is no board, and kinds that are not valid.
func lay(b []string, k []Kind) (*board, api.Errno) {
	if !skin.Valid(b) || !isSide(len(b)) || !isSide(len(b[0])) || !areKinds(k) {
		return nil, api.ErrArg
	}
	d := &board{len(b[0]), len(b), k, map[int]*skin.Table{}}
	for _, kind := range k {
		// The skin and the grade are valid.
		d.usable[kind.Grade], _ = skin.NewTable(b, kind.Grade)
	}
	return d, api.OK
}

func isSide(n int) bool { return n >= 1 && n <= api.MaxBoard }

func areKinds(k []Kind) bool {
	for _, kind := range k {
		if !isSide(kind.W) || !isSide(kind.H) || kind.Grade < 1 || kind.Grade > maxGrade || kind.Worth < 1 || kind.Worth > maxWorth {
			return false
		}
	}
	return len(k) <= api.MaxKinds
}

// count is how many rectangles lie within w by h cells: as many as there are pairs of an interval of columns and one of rows.
func count(w, h int) int { return sumTo(w) * sumTo(h) }

// sumTo is 1 + 2 + .. + n.
func sumTo(n int) int { return n * (n + 1) / 2 }

// number counts the rectangles before r. At (x, y) there are (w - x)·(h - y).
func number(w, h int, r api.Rect) int {
	above := (sumTo(h) - sumTo(h-r.Y)) * sumTo(w)
	left := (sumTo(w) - sumTo(w-r.X)) * (h - r.Y)
	return above + left + (r.W-1)*(h-r.Y) + r.H - 1
}

func (d *board) table() []int { return make([]int, count(d.w, d.h)) }

func (d *board) whole() api.Rect { return api.Rect{W: d.w, H: d.h} }

// of returns what a table has of r.
func (d *board) of(r api.Rect, table []int) int { return table[number(d.w, d.h, r)] }

// upward visits all rectangles, each one after all that lie within it and have its width or its height.
func (d *board) upward(yield func(r api.Rect) bool) {
	for w := 1; w <= d.w; w++ {
		for h := 1; h <= d.h; h++ {
			for y := range d.h - h + 1 {
				for x := range d.w - w + 1 {
					if !yield(api.Rect{X: x, Y: y, W: w, H: h}) {
						return
					}
				}
			}
		}
	}
}

func (d *board) fits(k Kind, r api.Rect) bool {
	if (k.W != r.W || k.H != r.H) && !(k.Turn && isTurned(k, r)) {
		return false
	}
	n, _ := d.usable[k.Grade].Count(r)
	return n == r.W*r.H
}

// isTurned is false of square kinds.
func isTurned(k Kind, r api.Rect) bool { return k.W != k.H && k.W == r.H && k.H == r.W }

// own is the greatest Worth of a kind that fits r, or 0 if none does.
func (d *board) own(r api.Rect) int {
	most := 0
	for _, k := range d.kinds {
		if d.fits(k, r) {
			most = max(most, k.Worth)
		}
	}
	return most
}

// span is the side of r along which a cut with this Op is placed.
func span(r api.Rect, op int) int {
	if op == vertical {
		return r.W
	}
	return r.H
}

// parts cuts r into two.
func parts(r api.Rect, op, arg int) (one, other api.Rect) {
	one, other = r, r
	if op == vertical {
		one.W, other.X, other.W = arg, r.X+arg, r.W-arg
	} else {
		one.H, other.Y, other.H = arg, r.Y+arg, r.H-arg
	}
	return one, other
}

// sum is what a table has of the two parts of r.
func (d *board) sum(r api.Rect, op, arg int, table []int) int {
	one, other := parts(r, op, arg)
	return d.of(one, table) + d.of(other, table)
}

// most is the greatest sum of any cut with this Op.
func (d *board) most(r api.Rect, op int, table []int) int {
	most := 0
	for arg := 1; arg < span(r, op); arg++ {
		most = max(most, d.sum(r, op, arg, table))
	}
	return most
}

// best returns for each rectangle the greatest worth of a plan.
func (d *board) best() []int {
	t := d.table()
	d.fill(t, vertical, t)
	return t
}

// fill writes into t for each rectangle the greatest worth of a plan, where t itself holds for the parts of a cut with this Op, and turned for those of the other cuts.
func (d *board) fill(t []int, op int, turned []int) {
	for r := range d.upward {
		t[number(d.w, d.h, r)] = max(d.own(r), d.most(r, op, t), d.most(r, vertical+horizontal-op, turned))
	}
}
