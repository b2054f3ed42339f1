package pair

import (
	"slices"
	"sort"

	"trank/api"
)

const maxCost = 4 * maxMeasure * maxMeasure

// placer returns a function that finds a partner for a left glove: the first right glove that is free or whose owner finds another partner. It marks those that it tries, and does not try those that are marked. If it finds none, the owners are as before.
func placer(owner []int, isPair func(i, j int) bool) func(i int, tried []bool) bool {
	var place func(i int, tried []bool) bool
	place = func(i int, tried []bool) bool {
		for j := range owner {
			if tried[j] || !isPair(i, j) {
				continue
			}
			tried[j] = true
			if owner[j] == alone || place(owner[j], tried) {
				owner[j] = i
				return true
			}
		}
		return false
	}
	return place
}

// largest returns the partners of the right gloves in a pairing with as many pairs as possible.
func largest(left, right int, isPair func(i, j int) bool) []int {
	owner := loners(right)
	place := placer(owner, isPair)
	for i := range left {
		place(i, make([]bool, right))
	}
	return owner
}

// most returns the greatest size of a pairing whose pairs cost at most so much each.
func (t *table) most(cost int) int {
	size := 0
	for _, i := range largest(t.left, t.right, func(i, j int) bool { return t.allows(i, j) && t.cost[i][j] <= cost }) {
		if i != alone {
			size++
		}
	}
	return size
}

// Most returns the greatest size of a pairing.
func Most(l, r []Glove, u Rule) (int, api.Errno) {
	t, e := lay(l, r, u)
	if e != api.OK {
		return 0, e
	}
	return t.most(maxCost), api.OK
}

// Even returns the least possible cost of the costliest pair.
func Even(l, r []Glove, u Rule) (int, api.Errno) {
	t, e := lay(l, r, u)
	if e != api.OK {
		return 0, e
	}
	size := t.most(maxCost)
	return sort.Search(maxCost, func(cost int) bool { return t.most(cost) == size }), api.OK
}

// Cover returns gloves of which each allowed pair has one.
func Cover(l, r []Glove, u Rule) ([]int, []int, api.Errno) {
	t, e := lay(l, r, u)
	if e != api.OK {
		return nil, nil, e
	}
	owner := largest(t.left, t.right, t.allows)
	place := placer(owner, t.allows)
	tried := make([]bool, t.right)
	for i := range t.left {
		if !slices.Contains(owner, i) {
			place(i, tried)
		}
	}
	// A left glove that is allowed with one that was not tried was not asked itself, so that it has a partner that was not tried either; and those that were tried have partners, or the pairing would not be the largest.
	var lefts, rights []int
	for j, i := range owner {
		if tried[j] {
			rights = append(rights, j)
		} else if i != alone {
			lefts = append(lefts, i)
		}
	}
	slices.Sort(lefts)
	return lefts, rights, api.OK
}
