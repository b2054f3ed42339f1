package seam_test

import (
	"fmt"
	"slices"
	"testing"

	"trank/api"
	"trank/seam"
)

// P7.1

func TestValid(t *testing.T) {
	for _, g := range graphs() {
		same(t, fmt.Sprint(g), fmt.Sprint(seam.Valid(g)), "true")
	}
	for _, g := range badGraphs() {
		same(t, fmt.Sprint(g), fmt.Sprint(seam.Valid(g)), "false")
	}
	for n := 1; n <= 16; n++ {
		for _, s := range []seam.Seam{join(0, n-1, 1, 0), join(n-1, 0, 10000, 7), join(n-1, n-1, 10000, 0)} {
			same(t, fmt.Sprint(n, s), fmt.Sprint(seam.Valid(graph(n, s))), "true")
			same(t, fmt.Sprint(n, s), fmt.Sprint(seam.Valid(graph(n, slices.Repeat([]seam.Seam{s}, 64)...))), "true")
			same(t, fmt.Sprint(n, s), fmt.Sprint(seam.Valid(graph(n, slices.Repeat([]seam.Seam{s}, 65)...))), "false")
		}
		same(t, fmt.Sprint(n), fmt.Sprint(seam.Valid(graph(n, join(0, n, 1, 0))), seam.Valid(graph(n, join(n, 0, 1, 0)))), "false false")
	}
}

func TestOdd(t *testing.T) {
	for _, g := range graphs() {
		for thread := range 8 {
			same(t, fmt.Sprint("Odd ", g, thread), show(seam.Odd(g, thread)), ok(odd(g, ofThread(g, thread))))
		}
	}
	for _, thread := range []int{-1, 8, 9, -biggest - 1, biggest} {
		same(t, fmt.Sprint("Odd ", thread), show(seam.Odd(single(), thread)), fails(api.ErrArg))
		same(t, fmt.Sprint("Odd ", thread), show(seam.Odd(graph(0), thread)), fails(api.ErrArg))
	}
}

// A seam from a joint to itself has two ends there.
func TestOddOfLoops(t *testing.T) {
	g := graph(3, join(1, 1, 1, 4), join(1, 2, 1, 4), join(2, 2, 1, 4), join(0, 0, 1, 4), join(0, 1, 1, 3))
	same(t, "Odd 4", show(seam.Odd(g, 4)), ok([]int{1, 2}))
	same(t, "Odd 3", show(seam.Odd(g, 3)), ok([]int{0, 1}))
	same(t, "Odd 2", show(seam.Odd(g, 2)), ok([]int{}))
}

// P7.3

func TestFar(t *testing.T) {
	for _, g := range graphs() {
		for a := range g.N {
			for b := range g.N {
				want, is := far(g, a, b)
				if !is {
					want = 0
				}
				same(t, fmt.Sprint("Far ", g, a, b), show2(seam.Far(g, a, b)), ok2(want, is))
			}
		}
	}
}

func TestFarOfSpecialGraphs(t *testing.T) {
	same(t, "itself", show2(seam.Far(graph(16), 15, 15)), ok2(0, true))
	same(t, "loop", show2(seam.Far(graph(1, join(0, 0, 9, 0)), 0, 0)), ok2(0, true))
	same(t, "no walk", show2(seam.Far(graph(4, join(0, 1, 1, 0), join(2, 3, 1, 0)), 1, 2)), ok2(0, false))
	same(t, "against the seam", show2(seam.Far(graph(2, join(0, 1, 9, 0)), 1, 0)), ok2(9, true))
	same(t, "beside each other", show2(seam.Far(graph(2, join(0, 1, 9, 0), join(1, 0, 4, 1), join(0, 1, 5, 2)), 0, 1)), ok2(4, true))
	same(t, "more seams", show2(seam.Far(graph(3, join(0, 1, 9, 0), join(0, 2, 4, 0), join(2, 1, 4, 7)), 0, 1)), ok2(8, true))
	long := graph(16)
	for j := range 15 {
		long.Seams = append(long.Seams, join(j+1, j, 10000, 7))
	}
	same(t, "longest", show2(seam.Far(long, 0, 15)), ok2(150000, true))
}

func TestFarOfNoJoint(t *testing.T) {
	for _, g := range []seam.Graph{triangle(), graph(3), graph(0)} {
		for _, j := range []int{-1, 3, 16, -biggest - 1, biggest} {
			for _, other := range []int{0, 2, j} {
				same(t, fmt.Sprint(j, other), show2(seam.Far(g, j, other)), fails(api.ErrArg))
				same(t, fmt.Sprint(other, j), show2(seam.Far(g, other, j)), fails(api.ErrArg))
			}
		}
	}
}

// P7.5

func TestPieces(t *testing.T) {
	for _, g := range graphs() {
		same(t, fmt.Sprint("Pieces ", g), show(seam.Pieces(g)), ok(len(classes(g, all))))
	}
	for n := 1; n <= 16; n++ {
		same(t, fmt.Sprint("Pieces ", n), show(seam.Pieces(graph(n))), ok(n))
		same(t, fmt.Sprint("Pieces ", n), show(seam.Pieces(graph(n, join(n-1, n-1, 1, 0)))), ok(n))
		same(t, fmt.Sprint("Pieces ", n), show(seam.Pieces(star(n))), ok(1))
	}
	same(t, "Pieces", show(seam.Pieces(graph(6, join(5, 2, 1, 0), join(2, 4, 1, 1), join(0, 3, 1, 2)))), ok(3))
}

func TestBridges(t *testing.T) {
	for _, g := range graphs() {
		same(t, fmt.Sprint("Bridges ", g), show(seam.Bridges(g)), ok(bridges(g)))
	}
	same(t, "two beside each other", show(seam.Bridges(graph(2, join(0, 1, 1, 0), join(1, 0, 1, 1)))), ok([]int{}))
	same(t, "loop", show(seam.Bridges(graph(2, join(0, 1, 1, 0), join(1, 1, 1, 0)))), ok([]int{0}))
	same(t, "between rings", show(seam.Bridges(path(0, 0, 1, 2, 0, 3, 4, 5, 3))), ok([]int{3}))
	same(t, "in two pieces", show(seam.Bridges(graph(5, join(3, 4, 1, 0), join(0, 1, 1, 0)))), ok([]int{0, 1}))
}

// P7.13

func TestBridgesAndRounds(t *testing.T) {
	found, bridge := 0, 0
	for _, g := range tinyGraphs() {
		if len(classes(g, all)) > 1 {
			continue
		}
		l := must[[]int](t)(seam.Bridges(g))
		for i := range g.Seams {
			found++
			if slices.Contains(l, i) {
				bridge++
			}
			if sewsOnce(g, 0, i) == slices.Contains(l, i) {
				t.Error(g, i, l)
			}
		}
	}
	if bridge < 100 || found-bridge < 200 {
		t.Error(found, bridge)
	}
}
