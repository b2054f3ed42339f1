package cut_test

import (
	"fmt"
	"slices"
	"testing"

	"trank/api"
	"trank/cut"
)

// The terms of the chapter, as directly as possible.

// allRects are the rectangles of a board of w by h cells in their order.
func allRects(w, h int) []api.Rect {
	var l []api.Rect
	for y := range h {
		for x := range w {
			for i := 1; x+i <= w; i++ {
				for j := 1; y+j <= h; j++ {
					l = append(l, r(x, y, i, j))
				}
			}
		}
	}
	return l
}

// fits also tells whether the kind is turned.
func (s sample) fits(i int, a api.Rect) (isFit, isTurned bool) {
	k := s.k[i]
	straight, across := a.W == k.W && a.H == k.H, k.Turn && a.H == k.W && a.W == k.H
	isFit = straight || across
	for y := a.Y; isFit && y < a.Y+a.H; y++ {
		for x := a.X; isFit && x < a.X+a.W; x++ {
			isFit = grade(s.b, x, y) >= k.Grade
		}
	}
	return isFit, isFit && !straight
}

// cutting is a cut of a rectangle.
type cutting struct {
	node       cut.Node
	one, other api.Rect
}

// cuttings are all cuts of a rectangle: the vertical ones first, by rising Arg.
func cuttings(a api.Rect) []cutting {
	var l []cutting
	for i := 1; i < a.W; i++ {
		l = append(l, cutting{node(opV, i), r(a.X, a.Y, i, a.H), r(a.X+i, a.Y, a.W-i, a.H)})
	}
	for i := 1; i < a.H; i++ {
		l = append(l, cutting{node(opH, i), r(a.X, a.Y, a.W, i), r(a.X, a.Y+i, a.W, a.H-i)})
	}
	return l
}

// plan is a plan for a rectangle with what is to be known of it.
type plan struct {
	nodes  []cut.Node
	pieces []cut.Placed
	worth  int
}

// plans are all plans for a rectangle.
func (s sample) plans(a api.Rect, known map[api.Rect][]plan) []plan {
	if l, isKnown := known[a]; isKnown {
		return l
	}
	l := []plan{{nodes: []cut.Node{node(opWaste, 0)}}}
	for i, k := range s.k {
		if isFit, isTurned := s.fits(i, a); isFit {
			l = append(l, plan{[]cut.Node{{Op: opPiece, Arg: i, Turned: isTurned}}, []cut.Placed{{Kind: i, At: a, Turned: isTurned}}, k.Worth})
		}
	}
	for _, c := range cuttings(a) {
		for _, p := range s.plans(c.one, known) {
			for _, q := range s.plans(c.other, known) {
				l = append(l, plan{slices.Concat([]cut.Node{c.node}, p.nodes, q.nodes), slices.Concat(p.pieces, q.pieces), p.worth + q.worth})
			}
		}
	}
	known[a] = l
	return l
}

func (s sample) allPlans() []plan { return s.plans(s.whole(), map[api.Rect][]plan{}) }

// changes is how often the direction changes on the way on which it changes most often: of the plan that p begins with, whose length is returned too.
func changes(p []cut.Node, before int) (most, length int) {
	op := p[0].Op
	if op != opV && op != opH {
		return 0, 1
	}
	one, n := changes(p[1:], op)
	other, m := changes(p[1+n:], op)
	most = max(one, other)
	if before != 0 && op != before {
		most++
	}
	return most, 1 + n + m
}

// parse returns the plan for a that p begins with.
func (s sample) parse(p []cut.Node, a api.Rect) (plan, bool) {
	if len(p) == 0 {
		return plan{}, false
	}
	if p[0] == node(opWaste, 0) {
		return plan{nodes: p[:1]}, true
	}
	for i, k := range s.k {
		isFit, isTurned := s.fits(i, a)
		if isFit && p[0] == (cut.Node{Op: opPiece, Arg: i, Turned: isTurned}) {
			return plan{p[:1], []cut.Placed{{Kind: i, At: a, Turned: isTurned}}, k.Worth}, true
		}
	}
	for _, c := range cuttings(a) {
		if p[0] == c.node {
			one, isOne := s.parse(p[1:], c.one)
			other, isOther := s.parse(p[1+len(one.nodes):], c.other)
			return plan{p[:1+len(one.nodes)+len(other.nodes)], slices.Concat(one.pieces, other.pieces), one.worth + other.worth}, isOne && isOther
		}
	}
	return plan{}, false
}

// read is parse of the whole board.
func (s sample) read(p []cut.Node) (plan, bool) {
	whole, isPlan := s.parse(p, s.whole())
	return whole, isPlan && len(whole.nodes) == len(p)
}

// bests are the greatest worths of plans for all rectangles.
func (s sample) bests() map[api.Rect]int {
	known := map[api.Rect]int{}
	var best func(a api.Rect) int
	best = func(a api.Rect) int {
		if v, isKnown := known[a]; isKnown {
			return v
		}
		v := 0
		for i, k := range s.k {
			if isFit, _ := s.fits(i, a); isFit {
				v = max(v, k.Worth)
			}
		}
		for _, c := range cuttings(a) {
			v = max(v, best(c.one)+best(c.other))
		}
		known[a] = v
		return v
	}
	best(s.whole())
	return known
}

// ruled is the plan that the rule of Plan makes.
func (s sample) ruled(a api.Rect, best map[api.Rect]int) []cut.Node {
	v := best[a]
	if v == 0 {
		return []cut.Node{node(opWaste, 0)}
	}
	for i, k := range s.k {
		if isFit, isTurned := s.fits(i, a); isFit && k.Worth == v {
			return []cut.Node{{Op: opPiece, Arg: i, Turned: isTurned}}
		}
	}
	for _, c := range cuttings(a) {
		if best[c.one]+best[c.other] == v {
			return slices.Concat([]cut.Node{c.node}, s.ruled(c.one, best), s.ruled(c.other, best))
		}
	}
	panic("no plan")
}

// stricts are the greatest worths with 0, 1, .. changes of direction, up to most.
func (s sample) stricts(most int) []int {
	place := func(a api.Rect) int { return ((a.Y*s.w()+a.X)*s.w()+a.W-1)*s.h() + a.H - 1 }
	size := place(r(s.w()-1, s.h()-1, s.w(), s.h())) + 1
	own, cuts := make([]int, size), make([][]cutting, size)
	for _, a := range allRects(s.w(), s.h()) {
		cuts[place(a)] = cuttings(a)
		for i, k := range s.k {
			if isFit, _ := s.fits(i, a); isFit {
				own[place(a)] = max(own[place(a)], k.Worth)
			}
		}
	}
	// known[ch][before] is what is known already with ch changes left after a cut with the Op before, or before any.
	known := make([][4][]int, most+1)
	var best func(a api.Rect, before, ch int) int
	best = func(a api.Rect, before, ch int) int {
		if known[ch][before] == nil {
			known[ch][before] = slices.Repeat([]int{-1}, size)
		}
		have := &known[ch][before][place(a)]
		if *have >= 0 {
			return *have
		}
		v := own[place(a)]
		for _, c := range cuts[place(a)] {
			left := ch
			if op := c.node.Op; before != 0 && op != before {
				left--
			}
			if left >= 0 {
				v = max(v, best(c.one, c.node.Op, left)+best(c.other, c.node.Op, left))
			}
		}
		*have = v
		return v
	}
	var l []int
	for ch := range most + 1 {
		l = append(l, best(s.whole(), 0, ch))
	}
	return l
}

// isBound adds numbers that are not below 0, so that the sums do not overflow.
func (s sample) isBound(table []int) bool {
	number := map[api.Rect]int{}
	for i, a := range allRects(s.w(), s.h()) {
		number[a] = table[i]
	}
	if slices.Min(table) < 0 {
		return false
	}
	for a, v := range number {
		for i, k := range s.k {
			if isFit, _ := s.fits(i, a); isFit && v < k.Worth {
				return false
			}
		}
		for _, c := range cuttings(a) {
			if uint64(v) < uint64(number[c.one])+uint64(number[c.other]) {
				return false
			}
		}
	}
	return true
}

// leastBound has the greatest worth of a plan for each rectangle.
func (s sample) leastBound() []int {
	best := s.bests()
	var l []int
	for _, a := range allRects(s.w(), s.h()) {
		l = append(l, best[a])
	}
	return l
}

// The oracles agree with lists of all plans.
func TestOracles(t *testing.T) {
	changed := 0
	for _, s := range tinySamples() {
		best, stricts := 0, make([]int, 5)
		for _, p := range s.allPlans() {
			q, isPlan := s.read(p.nodes)
			if !isPlan {
				t.Error(s, p)
			}
			same(t, "read", fmt.Sprint(q), fmt.Sprint(p))
			most, length := changes(p.nodes, 0)
			if length != len(p.nodes) {
				t.Error(s, p, length)
			}
			best = max(best, p.worth)
			for ch := most; ch < len(stricts); ch++ {
				stricts[ch] = max(stricts[ch], p.worth)
			}
		}
		same(t, fmt.Sprint("stricts ", s), fmt.Sprint(s.stricts(4)), fmt.Sprint(stricts))
		same(t, fmt.Sprint("bests ", s), fmt.Sprint(s.bests()[s.whole()]), fmt.Sprint(best))
		if !s.isBound(s.leastBound()) {
			t.Error(s, s.leastBound())
		}
		if stricts[0] < best {
			changed++
		}
	}
	if changed < 10 {
		t.Error(changed)
	}
}
