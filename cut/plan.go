package cut

import (
	"slices"

	"trank/api"
	"trank/skin"
)

// Plan returns a plan with the greatest worth.
func Plan(b []string, k []Kind) ([]Node, api.Errno) {
	d, e := lay(b, k)
	if e != api.OK {
		return nil, e
	}
	return d.plan(d.whole(), d.best()), api.OK
}

func (d *board) plan(r api.Rect, best []int) []Node {
	n := d.first(r, best)
	l := []Node{n}
	if n.Op == vertical || n.Op == horizontal {
		one, other := parts(r, n.Op, n.Arg)
		l = slices.Concat(l, d.plan(one, best), d.plan(other, best))
	}
	return l
}

// first is the first node of the plan for r.
func (d *board) first(r api.Rect, best []int) Node {
	v := d.of(r, best)
	if v == 0 {
		return Node{}
	}
	for i, k := range d.kinds {
		if k.Worth == v && d.fits(k, r) {
			return Node{piece, i, isTurned(k, r)}
		}
	}
	for _, op := range [...]int{vertical, horizontal} {
		for arg := 1; arg < span(r, op); arg++ {
			if d.sum(r, op, arg, best) == v {
				return Node{Op: op, Arg: arg}
			}
		}
	}
	return Node{}
}

// Read returns the pieces and the worth of a plan.
func Read(b []string, k []Kind, p []Node) ([]Placed, int, api.Errno) {
	d, e := lay(b, k)
	if e != api.OK {
		return nil, 0, e
	}
	l := reader{d, p, nil}
	if !l.read(d.whole()) || len(l.rest) > 0 {
		return nil, 0, api.ErrForm
	}
	worth := 0
	for _, x := range l.pieces {
		worth += k[x.Kind].Worth
	}
	return l.pieces, worth, api.OK
}

// reader goes through the nodes of a plan.
type reader struct {
	d      *board
	rest   []Node
	pieces []Placed
}

// read takes a plan for r from the rest, and reports whether there is one.
func (l *reader) read(r api.Rect) bool {
	if len(l.rest) == 0 {
		return false
	}
	n := l.rest[0]
	l.rest = l.rest[1:]
	switch n.Op {
	case waste:
		return n == Node{}
	case piece:
		return l.place(n, r)
	case vertical, horizontal:
		if n.Turned || n.Arg < 1 || n.Arg >= span(r, n.Op) {
			return false
		}
		one, other := parts(r, n.Op, n.Arg)
		return l.read(one) && l.read(other)
	}
	return false
}

func (l *reader) place(n Node, r api.Rect) bool {
	if n.Arg < 0 || n.Arg >= len(l.d.kinds) {
		return false
	}
	k := l.d.kinds[n.Arg]
	l.pieces = append(l.pieces, Placed{n.Arg, r, n.Turned})
	return l.d.fits(k, r) && n.Turned == isTurned(k, r)
}

// Counts returns how many pieces of each kind a plan has.
func Counts(b []string, k []Kind, p []Node) ([]int, api.Errno) {
	pieces, _, e := Read(b, k, p)
	if e != api.OK {
		return nil, e
	}
	counts := make([]int, len(k))
	for _, x := range pieces {
		counts[x.Kind]++
	}
	return counts, api.OK
}

// Rest returns the board without the pieces of a plan.
func Rest(b []string, k []Kind, p []Node) ([]string, api.Errno) {
	pieces, _, e := Read(b, k, p)
	if e != api.OK {
		return nil, e
	}
	rest := slices.Clone(b)
	for _, x := range pieces {
		// A piece lies within the board.
		rest, _ = skin.Punch(rest, x.At)
	}
	return rest, api.OK
}
