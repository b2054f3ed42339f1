package seam

import (
	"slices"

	"trank/api"
)

// Pieces returns the number of classes of connected joints.
func Pieces(g Graph) (int, api.Errno) {
	if !Valid(g) {
		return 0, api.ErrArg
	}
	return pieces(g.N, strands(g)), api.OK
}

func pieces(n int, l []strand) int {
	count := 0
	for j, first := range classes(n, l) {
		if j == first {
			count++
		}
	}
	return count
}

// Bridges returns the seams without which there would be more pieces.
func Bridges(g Graph) ([]int, api.Errno) {
	if !Valid(g) {
		return nil, api.ErrArg
	}
	var bridges []int
	all := pieces(g.N, strands(g))
	for i := range g.Seams {
		if pieces(g.N, slices.Delete(strands(g), i, i+1)) > all {
			bridges = append(bridges, i)
		}
	}
	return bridges, api.OK
}
