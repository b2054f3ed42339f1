package pair

import (
	"slices"

	"trank/api"
)

// pile is lay of a heap. No glove is a partner of itself.
func pile(h []Glove, u Rule) (*table, api.Errno) {
	t, e := lay(h, h, u)
	if e != api.OK {
		return nil, e
	}
	for i := range h {
		t.cost[i][i] = barred
	}
	return t, api.OK
}

// Heap returns a maximum matching of a heap.
func Heap(h []Glove, u Rule) ([]int, api.Errno) {
	t, e := pile(h, u)
	if e != api.OK {
		return nil, e
	}
	return t.matching(), api.OK
}

// matching needs to look from each glove only once: one from which no path led to another glove without a partner has none later either.
func (t *table) matching() []int {
	m := loners(t.left)
	for root := range m {
		if m[root] != alone {
			continue
		}
		_, path := t.explore(m, root)
		for p := range slices.Chunk(path, 2) {
			m[p[0]], m[p[1]] = p[1], p[0]
		}
	}
	return m
}

// explore looks for a path of allowed pairs, every other one of them a pair of m, from a root without a partner to another glove without one: to exchange the pairs of that path adds one. It returns that path, from its end to the root, or nil; and for each glove that it reached after an even number of pairs such a path to the root.
func (t *table) explore(m []int, root int) (paths [][]int, found []int) {
	paths = make([][]int, t.left)
	var reached []int
	reach := func(i int, path []int) {
		paths[i] = path
		reached = append(reached, i)
	}
	// Two gloves that are reached and allowed with each other close a ring of an odd number of gloves: the others of it are reached the other way round. Where both paths go through a glove that is not reached, the ring has ended.
	turn := func(back, on []int) {
		for k, i := range back {
			if paths[i] != nil {
				continue
			}
			if slices.Contains(on, i) {
				return
			}
			around := slices.Clone(back[:k+1])
			slices.Reverse(around)
			reach(i, append(around, on...))
		}
	}
	reach(root, []int{root})
	for k := 0; k < len(reached); k++ {
		i := reached[k]
		for j := range m {
			switch {
			case !t.allows(i, j):
			case paths[j] != nil:
				turn(paths[i], paths[j])
				turn(paths[j], paths[i])
			case m[j] == alone:
				return paths, append([]int{j}, paths[i]...)
			case paths[m[j]] == nil:
				reach(m[j], append([]int{m[j], j}, paths[i]...))
			}
		}
	}
	return paths, nil
}

// Pairs returns the number of pairs of a matching.
func Pairs(h []Glove, u Rule, m []int) (int, api.Errno) {
	t, e := pile(h, u)
	if e != api.OK {
		return 0, e
	}
	if len(m) != len(h) {
		return 0, api.ErrSize
	}
	paired := 0
	for i, j := range m {
		if j == alone {
			continue
		}
		if j < 0 || j >= len(h) || !t.allows(i, j) || m[j] != i {
			return 0, api.ErrForm
		}
		paired++
	}
	return paired / 2, api.OK
}

// Barrier returns gloves that prove that no matching has more pairs.
func Barrier(h []Glove, u Rule) ([]int, api.Errno) {
	t, e := pile(h, u)
	if e != api.OK {
		return nil, e
	}
	// What can be reached from gloves without a partner is what some matching with as many pairs leaves alone (Gallai, Edmonds): its classes are odd, all other classes even.
	m := t.matching()
	isSpare := make([]bool, len(h))
	for root, partner := range m {
		if partner == alone {
			paths, _ := t.explore(m, root)
			for i, path := range paths {
				isSpare[i] = isSpare[i] || path != nil
			}
		}
	}
	var barrier []int
	for i := range h {
		if !isSpare[i] && t.isNextTo(i, isSpare) {
			barrier = append(barrier, i)
		}
	}
	return barrier, api.OK
}

// isNextTo reports whether a glove is allowed with one of some others.
func (t *table) isNextTo(i int, some []bool) bool {
	for j, is := range some {
		if is && t.allows(i, j) {
			return true
		}
	}
	return false
}

// Odd returns the number of odd classes without the gloves of b.
func Odd(h []Glove, u Rule, b []int) (int, api.Errno) {
	t, e := pile(h, u)
	if e != api.OK || !areIndices(b, len(h)) {
		return 0, api.ErrArg
	}
	gone := make([]bool, len(h))
	for _, i := range b {
		gone[i] = true
	}
	// take takes away the class of a glove, and counts it.
	var take func(i int) int
	take = func(i int) int {
		gone[i] = true
		count := 1
		for j := range h {
			if !gone[j] && t.allows(i, j) {
				count += take(j)
			}
		}
		return count
	}
	odd := 0
	for i := range h {
		if !gone[i] {
			odd += take(i) % 2
		}
	}
	return odd, api.OK
}

// areIndices reports whether l rises strictly from 0 on and stays below n.
func areIndices(l []int, n int) bool {
	below := -1
	for _, i := range l {
		if i <= below || i >= n {
			return false
		}
		below = i
	}
	return true
}
