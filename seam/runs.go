package seam

import "trank/api"

// Fewest returns the least number of runs of a sewing.
func Fewest(g Graph) (int, api.Errno) {
	runs, e := Runs(g)
	return len(runs), e
}

// Runs returns a sewing with the least number of runs.
func Runs(g Graph) ([][]Move, api.Errno) {
	if !Valid(g) {
		return nil, api.ErrArg
	}
	var runs [][]Move
	for thread := range threads {
		runs = append(runs, runsOf(g, thread)...)
	}
	return runs, api.OK
}

// runsOf returns the fewest runs that sew the seams of a thread.
func runsOf(g Graph, thread int) [][]Move {
	l := ofThread(g, thread)
	first := classes(g.N, l)
	odd := make([][]int, g.N)
	for _, j := range oddJoints(g.N, l) {
		odd[first[j]] = append(odd[first[j]], j)
	}
	var runs [][]Move
	for j := range g.N {
		if first[j] == j {
			runs = append(runs, classRuns(l, j, odd[j])...)
		}
	}
	return runs
}

// classRuns returns the fewest runs that sew the strands of a class of joints, of which one joint and all joints of odd degree are given.
// Links join those of odd degree but the first and the last. As none has two links, no two of them follow each other in the walk, and no run is empty.
func classRuns(l []strand, joint int, odd []int) [][]Move {
	if len(odd) == 0 {
		return split(trail(l, joint))
	}
	linked := append([]strand{}, l...)
	for i := 1; i+1 < len(odd); i += 2 {
		linked = append(linked, strand{Seam{A: odd[i], B: odd[i+1]}, link})
	}
	return split(trail(linked, odd[0]))
}

// split cuts a walk at its links.
func split(walk []Move) [][]Move {
	var runs [][]Move
	begins := true
	for _, m := range walk {
		if m.Seam == link {
			begins = true
			continue
		}
		if begins {
			runs = append(runs, nil)
		}
		begins = false
		last := len(runs) - 1
		runs[last] = append(runs[last], m)
	}
	return runs
}

// Sews reports whether runs are a sewing.
func Sews(g Graph, runs [][]Move) (bool, api.Errno) {
	if !Valid(g) {
		return false, api.ErrArg
	}
	return sews(g, runs), api.OK
}

func sews(g Graph, runs [][]Move) bool {
	sewn := make([]bool, len(g.Seams))
	left := len(g.Seams)
	for _, run := range runs {
		if !isRun(g, run) {
			return false
		}
		for _, m := range run {
			if sewn[m.Seam] {
				return false
			}
			sewn[m.Seam] = true
			left--
		}
	}
	return left == 0
}

func isRun(g Graph, run []Move) bool {
	var at, thread int
	for i, m := range run {
		if m.Seam < 0 || m.Seam >= len(g.Seams) {
			return false
		}
		s := g.Seams[m.Seam]
		from, to := ends(s, m.Back)
		if i > 0 && (from != at || s.Thread != thread) {
			return false
		}
		at, thread = to, s.Thread
	}
	return len(run) > 0
}
