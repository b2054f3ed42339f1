package skin

import "trank/api"

// Fewest returns the least number of rectangles of a division.
func Fewest(s []string, g int) (int, api.Errno) {
	l, e := Split(s, g)
	return len(l), e
}

// Split returns a division with the least number of rectangles.
//
// A notch is a corner of cells at which three of the four are usable: a cut has to end there. Each cut makes one rectangle more, so that a division with the fewest rectangles has the most chords, which are cuts that end in notches at both ends, of which no two meet. Flat cuts from all notches without an upright chord make the flat chords too.
func Split(s []string, g int) ([]api.Rect, api.Errno) {
	usable, e := leather(s, g)
	if e != api.OK {
		return nil, e
	}
	d := &division{usable: usable, cuts: map[edge]bool{}}
	notches := d.notches(s)
	served := d.cutUpright(notches)
	for _, n := range notches {
		if !served[n.at] {
			d.cut(d.line(n.at, cell{n.inward.x, 0}))
		}
	}
	return d.rects(s), api.OK
}

// division is leather that is being cut. A cell stands for its upper left corner too.
type division struct {
	usable func(c cell) bool
	cuts   map[edge]bool
}

// edge is the left edge of a cell, or its upper one.
type edge struct {
	of   cell
	left bool
}

// between is the edge between two corners.
func between(a, b cell) edge {
	return edge{cell{min(a.x, b.x), min(a.y, b.y)}, a.x == b.x}
}

type notch struct {
	at     cell
	inward cell // where the leather goes on: 1 or -1 in both x and y
}

func (d *division) notches(s []string) []notch {
	var l []notch
	walk(s, func(c cell) {
		if inward, isNotch := d.inward(c); isNotch {
			l = append(l, notch{c, inward})
		}
	})
	return l
}

// inward reports whether there is a notch at c. The steps to its three cells sum to the step away from the missing one.
func (d *division) inward(c cell) (cell, bool) {
	var sum cell
	n := 0
	for _, step := range [4]cell{{-1, -1}, {1, -1}, {-1, 1}, {1, 1}} {
		if d.usable(cell{c.x + min(step.x, 0), c.y + min(step.y, 0)}) {
			sum = sum.plus(step)
			n++
		}
	}
	return sum, n == 3
}

// line returns the corners from one on until the leather ends or an upright cut is met.
func (d *division) line(from, step cell) []cell {
	l := []cell{from}
	for next := from.plus(step); d.isInside(between(next.minus(step), next)); next = next.plus(step) {
		l = append(l, next)
		if d.cuts[edge{next, true}] {
			break
		}
	}
	return l
}

func (d *division) isInside(e edge) bool {
	other := e.of.minus(cell{0, 1})
	if e.left {
		other = e.of.minus(cell{1, 0})
	}
	return d.usable(e.of) && d.usable(other)
}

func (d *division) cut(line []cell) {
	for i, c := range line[1:] {
		d.cuts[between(line[i], c)] = true
	}
}

// cutUpright makes the cuts of the upright chords that are among the most chords that do not meet, and returns the notches at which they end.
func (d *division) cutUpright(notches []notch) map[cell]bool {
	flat, upright := d.chords(notches, cell{1, 0}), d.chords(notches, cell{0, 1})
	isApart := mostApart(meetings(flat, upright), len(upright))
	served := map[cell]bool{}
	for i, line := range upright {
		if isApart[i] {
			d.cut(line)
			served[line[0]], served[line[len(line)-1]] = true, true
		}
	}
	return served
}

// chords returns the lines along step between two notches. No two of them meet, because from a notch the leather goes on either along step or against it.
func (d *division) chords(notches []notch, step cell) [][]cell {
	var l [][]cell
	for _, n := range notches {
		if n.inward.x*step.x+n.inward.y*step.y < 0 {
			continue
		}
		line := d.line(n.at, step)
		if _, isNotch := d.inward(line[len(line)-1]); isNotch {
			l = append(l, line)
		}
	}
	return l
}

// meetings lists for each flat line the upright ones that it meets. At most one upright line goes through a corner.
func meetings(flat, upright [][]cell) [][]int {
	at := map[cell]int{}
	for i, line := range upright {
		for _, c := range line {
			at[c] = i
		}
	}
	l := make([][]int, len(flat))
	for i, line := range flat {
		for _, c := range line {
			if j, ok := at[c]; ok {
				l[i] = append(l[i], j)
			}
		}
	}
	return l
}

// rects returns the rectangles into which the leather is cut.
func (d *division) rects(s []string) []api.Rect {
	var l []api.Rect
	taken := map[cell]bool{}
	walk(s, func(c cell) {
		if !d.usable(c) || taken[c] {
			return
		}
		w, h := d.reach(c, cell{1, 0}), d.reach(c, cell{0, 1})
		for y := range h {
			for x := range w {
				taken[c.plus(cell{x, y})] = true
			}
		}
		l = append(l, api.Rect{X: c.x, Y: c.y, W: w, H: h})
	})
	return l
}

// reach is how many cells there are from c on until the leather ends or a cut.
func (d *division) reach(c, step cell) int {
	n := 1
	for next := c.plus(step); d.usable(next) && !d.cuts[edge{next, step.y == 0}]; next = next.plus(step) {
		n++
	}
	return n
}
