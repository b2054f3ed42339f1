package seam

import "slices"

// strand is a seam that a walk uses once, with its index in the graph.
type strand struct {
	Seam
	index int
}

// link is the index of a strand that is no seam: there the thread is cut.
const link = -1

// strands returns the seams of a graph.
func strands(g Graph) []strand {
	var l []strand
	for i, s := range g.Seams {
		l = append(l, strand{s, i})
	}
	return l
}

// ofThread returns the seams of a graph that have a thread.
func ofThread(g Graph, thread int) []strand {
	return slices.DeleteFunc(strands(g), func(s strand) bool { return s.Thread != thread })
}

// trail returns a walk from a joint that uses each strand connected with it once.
// It takes it that no joint has an odd degree, or two have and from is one of them: then a walk that goes on as long as it can ends where the whole walk ends, and what it has left out are closed walks.
func trail(l []strand, from int) []Move {
	used := make([]bool, len(l))
	var walk []Move
	var leave func(at int)
	leave = func(at int) {
		for i, s := range l {
			if used[i] || s.A != at && s.B != at {
				continue
			}
			used[i] = true
			back := s.A != at
			_, to := ends(s.Seam, back)
			leave(to)
			walk = append(walk, Move{s.index, back}) // what follows it is there already
		}
	}
	leave(from)
	slices.Reverse(walk)
	return walk
}
