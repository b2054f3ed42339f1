package pair

import (
	"cmp"
	"slices"

	"trank/api"
)

// pairs are the allowed pairs, by left glove, then right glove.
func (t *table) pairs() [][2]int {
	var l [][2]int
	for i := range t.left {
		for j := range t.right {
			if t.allows(i, j) {
				l = append(l, [2]int{i, j})
			}
		}
	}
	return l
}

// Stable returns the stable pairing that all left gloves prefer.
func Stable(l, r []Glove, u Rule) ([]int, api.Errno) {
	t, e := lay(l, r, u)
	if e != api.OK {
		return nil, e
	}
	pairs := t.pairs()
	slices.SortStableFunc(pairs, func(p, q [2]int) int {
		return cmp.Compare(t.cost[p[0]][p[1]], t.cost[q[0]][q[1]])
	})
	// Both gloves of the first pair prefer each other to all others, so that every stable pairing has it; and without these two, the next one, and so on: there is only one stable pairing.
	m, isTaken := loners(t.left), make([]bool, t.right)
	for _, p := range pairs {
		i, j := p[0], p[1]
		if m[i] == alone && !isTaken[j] {
			m[i], isTaken[j] = j, true
		}
	}
	return m, api.OK
}

// Blocking returns the pairs that block a pairing.
func Blocking(l, r []Glove, u Rule, m []int) ([][2]int, api.Errno) {
	t, e := lay(l, r, u)
	if e != api.OK {
		return nil, e
	}
	owner, e := t.owners(m)
	if e != api.OK {
		return nil, e
	}
	var blocking [][2]int
	for _, p := range t.pairs() {
		if t.leftPrefers(p[0], p[1], m[p[0]]) && t.rightPrefers(p[1], p[0], owner[p[1]]) {
			blocking = append(blocking, p)
		}
	}
	return blocking, api.OK
}

// leftPrefers reports whether a left glove prefers a right glove, which is allowed with it, to its partner.
func (t *table) leftPrefers(i, j, partner int) bool {
	return partner == alone || isBefore(t.cost[i][j], j, t.cost[i][partner], partner)
}

// rightPrefers is leftPrefers of a right glove.
func (t *table) rightPrefers(j, i, partner int) bool {
	return partner == alone || isBefore(t.cost[i][j], i, t.cost[partner][j], partner)
}

func isBefore(cost, glove, otherCost, other int) bool {
	return cost < otherCost || cost == otherCost && glove < other
}
