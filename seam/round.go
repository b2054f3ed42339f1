package seam

import (
	"math/bits"

	"trank/api"
)

// apart is the length between joints that no walk connects; no walk without a circle is as long.
const apart = 1 << 30

// Far returns the least length of a walk.
func Far(g Graph, a, b int) (int, bool, api.Errno) {
	if !Valid(g) || !isJoint(g, a) || !isJoint(g, b) {
		return 0, false, api.ErrArg
	}
	length := lengths(g)[a][b]
	if length == apart {
		return 0, false, api.OK
	}
	return length, true, api.OK
}

// lengths returns the least length of a walk from each joint to each, or apart.
func lengths(g Graph) [][]int {
	far := make([][]int, g.N)
	for a := range far {
		far[a] = make([]int, g.N)
		for b := range far[a] {
			if a != b {
				far[a][b] = apart
			}
		}
	}
	for _, s := range g.Seams {
		far[s.A][s.B] = min(far[s.A][s.B], s.Len)
		far[s.B][s.A] = far[s.A][s.B]
	}
	for by := range far {
		for a := range far {
			for b := range far {
				far[a][b] = min(far[a][b], far[a][by]+far[by][b])
			}
		}
	}
	return far
}

// Round returns the least length of a closed walk that sews all seams.
func Round(g Graph, from int) (int, api.Errno) {
	walk, e := Tour(g, from)
	length := 0
	for _, m := range walk {
		length += g.Seams[m.Seam].Len
	}
	return length, e
}

// Tour returns a closed walk of the least length that sews all seams.
// The seams that it sews twice are the cheapest ones that make the degree of each joint even: the shortest walks between pairs of the joints of odd degree.
func Tour(g Graph, from int) ([]Move, api.Errno) {
	if !Valid(g) || !isJoint(g, from) {
		return nil, api.ErrArg
	}
	l := strands(g)
	if !allWith(classes(g.N, l), l, from) {
		return nil, api.ErrNone
	}
	far := lengths(g)
	for _, p := range nearPairs(oddJoints(g.N, l), far) {
		l = append(l, shortest(g, far, p[0], p[1])...)
	}
	return trail(l, from), api.OK
}

// allWith reports whether all strands are connected with a joint.
func allWith(first []int, l []strand, joint int) bool {
	for _, s := range l {
		if first[s.A] != first[joint] {
			return false
		}
	}
	return true
}

// nearPairs divides joints, of which there is an even number, into pairs with the least sum of their lengths.
// A set of joints is a number: bit i stands for joints[i].
func nearPairs(joints []int, far [][]int) [][2]int {
	least := make([]int, 1<<len(joints))
	partner := make([]int, len(least))
	for set := 1; set < len(least); set++ {
		a := bits.TrailingZeros(uint(set))
		least[set] = apart
		for b := a + 1; b < len(joints); b++ {
			if set>>b&1 == 0 {
				continue
			}
			sum := least[set^1<<a^1<<b] + far[joints[a]][joints[b]]
			if sum < least[set] {
				least[set], partner[set] = sum, b
			}
		}
	}
	var pairs [][2]int
	for set := len(least) - 1; set > 0; {
		a, b := bits.TrailingZeros(uint(set)), partner[set]
		pairs = append(pairs, [2]int{joints[a], joints[b]})
		set = set ^ 1<<a ^ 1<<b
	}
	return pairs
}

// shortest returns the seams of a shortest walk between two joints that are connected.
func shortest(g Graph, far [][]int, a, b int) []strand {
	var l []strand
	for a != b {
		for i, s := range g.Seams {
			from, to := ends(s, s.A != a)
			if from == a && s.Len+far[to][b] == far[a][b] {
				l = append(l, strand{s, i})
				a = to
			}
		}
	}
	return l
}
