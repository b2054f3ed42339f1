package seam_test

import (
	"fmt"
	"slices"
	"testing"

	"trank/seam"
)

// P7.2 and P7.9

func fewestByClasses(g seam.Graph) int {
	n := 0
	for thread := range 8 {
		n += byClasses(g, thread)
	}
	return n
}

func TestFewest(t *testing.T) {
	for _, g := range tinyGraphs() {
		same(t, fmt.Sprint("Fewest ", g), show(seam.Fewest(g)), ok(fewest(g)))
		same(t, fmt.Sprint("classes of ", g), ok(fewestByClasses(g)), ok(fewest(g)))
	}
	for _, g := range graphs() {
		same(t, fmt.Sprint("Fewest ", g), show(seam.Fewest(g)), ok(fewestByClasses(g)))
	}
}

func TestRuns(t *testing.T) {
	for _, g := range graphs() {
		runs := must[[][]seam.Move](t)(seam.Runs(g))
		if !isSewing(g, runs) || len(runs) != must[int](t)(seam.Fewest(g)) {
			t.Error(g, runs)
		}
		same(t, fmt.Sprint("Sews ", g, runs), show(seam.Sews(g, runs)), ok(true))
	}
}

func TestFewestOfSpecialGraphs(t *testing.T) {
	two := graph(8, join(0, 1, 1, 0), join(2, 3, 1, 0), join(4, 4, 1, 0))
	for _, x := range []struct {
		g    seam.Graph
		want int
	}{
		{graph(1), 0}, {graph(16), 0}, {star(16), 8}, {star(15), 7}, {two, 3}, {graph(1, slices.Repeat([]seam.Seam{join(0, 0, 1, 0)}, 64)...), 1},
		{graph(2, slices.Repeat([]seam.Seam{join(0, 1, 1, 7)}, 63)...), 1}, {graph(4, join(0, 1, 1, 0), join(2, 3, 1, 0), join(1, 2, 1, 1)), 3},
		{graph(4, join(0, 1, 1, 0), join(2, 3, 1, 0), join(1, 2, 1, 0)), 1}, {path(3, 0, 1, 2, 3, 4, 0, 2, 4, 1, 3, 0), 1},
	} {
		same(t, fmt.Sprint("Fewest ", x.g), show(seam.Fewest(x.g)), ok(x.want))
	}
}

func TestSews(t *testing.T) {
	is := func(g seam.Graph, want bool, runs ...[]seam.Move) {
		t.Helper()
		same(t, fmt.Sprint("Sews ", g, runs), show(seam.Sews(g, runs)), ok(want))
	}
	ring := []seam.Move{there(0), there(1), there(2)}
	is(triangle(), true, ring)
	is(triangle(), true, turned(ring))
	is(triangle(), true, ring[1:], ring[:1])
	is(triangle(), true, alone(back(2), there(0), back(1))...)
	is(triangle(), true, []seam.Move{there(2), there(0), there(1)})
	is(triangle(), false)
	is(triangle(), false, nil)
	is(triangle(), false, ring, nil)
	is(triangle(), false, []seam.Move{}, ring)
	is(triangle(), false, ring[:2])
	is(triangle(), false, ring, ring[2:])
	is(triangle(), false, []seam.Move{there(0), there(1), there(2), there(0)})
	is(triangle(), false, []seam.Move{there(0), there(1), back(2)})
	is(triangle(), false, []seam.Move{there(1), there(0), there(2)})
	is(triangle(), false, []seam.Move{back(0), there(1)}, ring[2:])
	is(square(), true, ring, []seam.Move{there(3)})
	is(square(), false, ring, []seam.Move{there(3), back(3)})
	is(square(), false, append(ring, there(3)))
	is(square(), false, []seam.Move{there(3), there(2)}, ring[:2])
	for _, i := range []int{-1, 4, 63, 64, -biggest - 1, biggest} {
		is(square(), false, ring, []seam.Move{there(3)}, []seam.Move{there(i)})
		is(square(), false, ring, []seam.Move{there(3), there(i)})
		is(square(), false, ring, []seam.Move{there(i)})
		is(graph(1), false, []seam.Move{back(i)})
	}
	is(graph(1), true)
	is(graph(1), false, nil)
	loops := graph(2, join(1, 1, 5, 0), join(1, 1, 5, 0), join(0, 1, 2, 0))
	is(loops, true, []seam.Move{there(2), there(0), back(1)})
	is(loops, true, []seam.Move{back(0), there(1), back(2)})
	is(loops, false, []seam.Move{there(0), there(2), there(1)})
}

// spoilt are sewings of which one thing has been changed; some of them are sewings still.
func spoilt(runs [][]seam.Move) [][][]seam.Move {
	clone := func() [][]seam.Move {
		l := slices.Clone(runs)
		for i := range l {
			l[i] = slices.Clone(l[i])
		}
		return l
	}
	var out [][][]seam.Move
	for i, run := range runs {
		out = append(out, slices.Delete(clone(), i, i+1), append(clone(), run), slices.Insert(clone(), i, []seam.Move{}))
		if i > 0 {
			both := slices.Concat(runs[i-1], run)
			out = append(out, slices.Replace(clone(), i-1, i+1, both), slices.Replace(clone(), i-1, i+1, turned(both)))
		}
		for k := range run {
			other, less, next := clone(), clone(), clone()
			other[i][k].Back = !run[k].Back
			less[i] = slices.Delete(less[i], k, k+1)
			next[i][k].Seam++
			divided := slices.Insert(clone(), i, slices.Clone(run[:k]))
			divided[i+1] = divided[i+1][k:]
			out = append(out, other, less, next, divided)
		}
	}
	return out
}

func TestSewsOfSpoiltSewings(t *testing.T) {
	d := dice()
	count := map[bool]int{}
	for _, g := range slices.Concat(tinyGraphs(), randomGraphs(100, 16, 40), special()) {
		for _, runs := range spoilt(randomSewing(t, d, g)) {
			is := isSewing(g, runs)
			count[is]++
			same(t, fmt.Sprint("Sews ", g, runs), show(seam.Sews(g, runs)), ok(is))
		}
	}
	if count[true] < 1000 || count[false] < 1000 {
		t.Error(count)
	}
}

// No limit is named for runs: those that are too many or too long are no sewing.
func TestSewsOfManyMoves(t *testing.T) {
	same(t, "many moves", show(seam.Sews(single(), [][]seam.Move{make([]seam.Move, 1000000)})), ok(false))
	same(t, "many runs", show(seam.Sews(single(), make([][]seam.Move, 1000000))), ok(false))
	same(t, "many runs", show(seam.Sews(single(), slices.Repeat(alone(there(0)), 1000000))), ok(false))
}
