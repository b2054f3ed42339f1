package seam_test

import (
	"fmt"
	"slices"
	"testing"

	"trank/api"
	"trank/seam"
)

// P7.4 and P7.10

// roundText is what Round returns of a round of a length, if there is one.
func roundText(n int, is bool) string {
	if !is {
		return fails(api.ErrNone)
	}
	return ok(n)
}

func TestRound(t *testing.T) {
	for _, g := range tinyGraphs() {
		for from := range g.N {
			n, is := round(g, from)
			same(t, fmt.Sprint("Round ", g, from), show(seam.Round(g, from)), roundText(n, is))
			if is && n != sum(g)+twice(g) {
				t.Error(g, n)
			}
		}
	}
}

// isConnected reports whether all seams are connected with a joint.
func isConnected(g seam.Graph, from int) bool {
	met := reach(g, from, all)
	for _, s := range g.Seams {
		if !met[s.A] {
			return false
		}
	}
	return true
}

// connected are graphs of which all seams are connected with each other, and a joint of them.
func connected(g seam.Graph) (seam.Graph, int) {
	if len(g.Seams) == 0 {
		return g, 0
	}
	from := g.Seams[0].A
	met := reach(g, from, all)
	g.Seams = slices.DeleteFunc(slices.Clone(g.Seams), func(s seam.Seam) bool { return !met[s.A] })
	return g, from
}

func TestLongRound(t *testing.T) {
	odds := map[int]int{}
	for _, g := range graphs() {
		g, from := connected(g)
		odds[len(odd(g, all))]++
		same(t, fmt.Sprint("Round ", g, from), show(seam.Round(g, from)), ok(longRound(g)))
	}
	if odds[10] < 4 || odds[12] < 1 || odds[14] < 4 || odds[16] < 10 {
		t.Error(odds)
	}
}

func TestRoundFromEach(t *testing.T) {
	for _, g := range graphs() {
		h, _ := connected(g)
		want := ok(longRound(h)) // that of g if all its seams are connected
		for from := range g.N {
			if !isConnected(g, from) {
				same(t, fmt.Sprint("Round ", g, from), show(seam.Round(g, from)), fails(api.ErrNone))
				continue
			}
			same(t, fmt.Sprint("Round ", g, from), show(seam.Round(g, from)), want)
		}
	}
}

func TestTour(t *testing.T) {
	found := 0
	for _, g := range graphs() {
		for from := range g.N {
			n, e := seam.Round(g, from)
			if e != api.OK {
				same(t, fmt.Sprint("Tour ", g, from), show(seam.Tour(g, from)), fails(e))
				continue
			}
			found++
			walk := must[[]seam.Move](t)(seam.Tour(g, from))
			if !isRound(g, from, walk) || length(g, walk) != n {
				t.Error(g, from, n, walk)
			}
			if n < sum(g) || n > 2*sum(g) || (n == sum(g)) != (len(odd(g, all)) == 0) {
				t.Error(g, from, n)
			}
		}
	}
	if found < 2000 {
		t.Error(found)
	}
}

func TestRoundOfSpecialGraphs(t *testing.T) {
	for _, x := range []struct {
		g    seam.Graph
		from int
		want string
	}{
		{graph(1), 0, ok(0)}, {graph(16), 15, ok(0)}, {single(), 1, ok(10)}, {star(16), 7, ok(240)}, {graph(3, join(1, 2, 4, 0)), 1, ok(8)},
		{graph(3, join(1, 2, 4, 0)), 0, fails(api.ErrNone)}, {graph(2, join(0, 0, 4, 0)), 0, ok(4)}, {graph(2, join(0, 0, 4, 0)), 1, fails(api.ErrNone)},
		{graph(4, join(0, 1, 1, 0), join(2, 3, 1, 0)), 0, fails(api.ErrNone)}, {graph(2, slices.Repeat([]seam.Seam{join(0, 1, 10000, 7)}, 64)...), 0, ok(640000)},
		{graph(2, slices.Repeat([]seam.Seam{join(0, 1, 10000, 7)}, 63)...), 0, ok(640000)},
		{graph(4, join(0, 1, 9, 0), join(0, 2, 2, 0), join(2, 3, 2, 0), join(3, 1, 2, 0), join(0, 0, 1, 0)), 0, ok(16)},
	} {
		same(t, fmt.Sprint("Round ", x.g, x.from), show(seam.Round(x.g, x.from)), x.want)
	}
	for _, g := range []seam.Graph{graph(1), graph(16)} {
		same(t, "Tour", show(seam.Tour(g, 0)), ok([]seam.Move{}))
	}
}

// ErrArg precedes ErrNone.
func TestRoundFromNoJoint(t *testing.T) {
	parted := graph(4, join(0, 1, 1, 0), join(2, 3, 1, 0))
	for _, g := range []seam.Graph{parted, graph(4), graph(0)} {
		for _, from := range []int{-1, 4, 16, -biggest - 1, biggest} {
			same(t, fmt.Sprint("Round ", from), show(seam.Round(g, from)), fails(api.ErrArg))
			same(t, fmt.Sprint("Tour ", from), show(seam.Tour(g, from)), fails(api.ErrArg))
		}
	}
}
