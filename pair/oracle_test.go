package pair_test

import (
	"fmt"
	"slices"
	"testing"

	"trank/pair"
)

// What the chapter defines, as directly as possible.

func apart(x, y int) int {
	if x < y {
		return y - x
	}
	return x - y
}

// price is the cost of a pair, and whether it is allowed.
func price(a, b pair.Glove, u pair.Rule) (int, bool) {
	shade, grain, thick, stretch := apart(a.Shade, b.Shade), apart(a.Grain, b.Grain), apart(a.Thick, b.Thick), apart(a.Stretch, b.Stretch)
	if shade > u.Limit.Shade || grain > u.Limit.Grain || thick > u.Limit.Thick || stretch > u.Limit.Stretch {
		return 0, false
	}
	return shade*u.Weight.Shade + grain*u.Weight.Grain + thick*u.Weight.Thick + stretch*u.Weight.Stretch, true
}

func (s sample) price(i, j int) int {
	c, _ := price(s.l[i], s.r[j], s.u)
	return c
}

func (s sample) allows(i, j int) bool {
	_, is := price(s.l[i], s.r[j], s.u)
	return is
}

// isPairing reports whether m is a pairing.
func (s sample) isPairing(m []int) bool {
	if len(m) != len(s.l) {
		return false
	}
	for i, j := range m {
		if j != -1 && (j < 0 || j >= len(s.r) || !s.allows(i, j) || slices.Contains(m[:i], j)) {
			return false
		}
	}
	return true
}

// size is the number of pairs of a pairing or, twice, of a matching.
func size(m []int) int {
	n := 0
	for _, j := range m {
		if j != -1 {
			n++
		}
	}
	return n
}

func (s sample) costs(m []int) []int {
	var l []int
	for i, j := range m {
		if j != -1 {
			l = append(l, s.price(i, j))
		}
	}
	return l
}

func sum(l []int) int {
	n := 0
	for _, x := range l {
		n += x
	}
	return n
}

// allPairings are in their order: the first of several comes first.
func (s sample) allPairings() [][]int {
	l := [][]int{{}}
	for i := range s.l {
		var longer [][]int
		for _, m := range l {
			for j := range s.r {
				if s.allows(i, j) && !slices.Contains(m, j) {
					longer = append(longer, append(slices.Clone(m), j))
				}
			}
			longer = append(longer, append(slices.Clone(m), -1))
		}
		l = longer
	}
	return l
}

// largest are the pairings with the most pairs, in their order.
func (s sample) largest() [][]int {
	all := s.allPairings()
	most := 0
	for _, m := range all {
		most = max(most, size(m))
	}
	return slices.DeleteFunc(all, func(m []int) bool { return size(m) < most })
}

// listed are Most, Cheapest and Even by a list of all pairings.
func (s sample) listed() (most int, cheapest []int, even int) {
	l := s.largest()
	even = slices.Max(append(s.costs(l[0]), 0))
	cheapest = l[0]
	for _, m := range l {
		even = min(even, slices.Max(append(s.costs(m), 0)))
		if sum(s.costs(m)) < sum(s.costs(cheapest)) {
			cheapest = m
		}
	}
	return size(l[0]), cheapest, even
}

// leftPrefers reports whether the left glove i prefers the right glove j to k.
func (s sample) leftPrefers(i, j, k int) bool {
	if !s.allows(i, j) || k == -1 {
		return s.allows(i, j)
	}
	return !s.allows(i, k) || s.price(i, j) < s.price(i, k) || s.price(i, j) == s.price(i, k) && j < k
}

// blocking are the pairs that block m.
func (s sample) blocking(m []int) [][2]int {
	l := [][2]int{}
	for i := range s.l {
		for j := range s.r {
			if s.allows(i, j) && m[i] != j && s.leftPrefers(i, j, m[i]) && s.exchanged().leftPrefers(j, i, slices.Index(m, j)) {
				l = append(l, [2]int{i, j})
			}
		}
	}
	return l
}

// proposals is the stable pairing by rounds: each left glove without a partner asks the right glove that it prefers of those that did not yet refuse it, and each right glove refuses all but one.
func (s sample) proposals() []int {
	m := slices.Repeat([]int{-1}, len(s.l))
	refused := make([][]bool, len(s.l))
	for i := range refused {
		refused[i] = make([]bool, len(s.r))
	}
	for {
		isOver := true
		for i := range s.l {
			if m[i] != -1 {
				continue
			}
			for j := range s.r {
				if !refused[i][j] && s.leftPrefers(i, j, m[i]) {
					m[i] = j
					isOver = false
				}
			}
		}
		if isOver {
			return m
		}
		for j := range s.r {
			s.refuse(m, j, refused)
		}
	}
}

// refuse leaves the right glove j the left glove that it prefers of those that ask.
func (s sample) refuse(m []int, j int, refused [][]bool) {
	best := -1
	for i := range m {
		if m[i] == j && s.exchanged().leftPrefers(j, i, best) {
			best = i
		}
	}
	for i := range m {
		if m[i] == j && i != best {
			m[i], refused[i][j] = -1, true
		}
	}
}

// worths has what each pair is worth, 0 if it is not allowed.
func (s sample) worths() [][]int {
	var l [][]int
	for i := range s.l {
		row := make([]int, len(s.r))
		for j := range row {
			if s.allows(i, j) {
				row[j] = full - s.price(i, j)
			}
		}
		l = append(l, row)
	}
	return l
}

// greatest is the greatest sum of some of the numbers w, of which no two are of one row or of one column: the Hungarian method row by row with potentials, with a column of zeros more for each row. Column and row 0 are used by the method itself.
func greatest(w [][]int, columns int) int {
	rows := len(w)
	width := columns + rows
	cost := func(i, j int) int {
		if j <= columns {
			return -w[i-1][j-1]
		}
		return 0
	}
	u, v, owner, back := make([]int, rows+1), make([]int, width+1), make([]int, width+1), make([]int, width+1)
	for i := 1; i <= rows; i++ {
		owner[0] = i
		least, used := slices.Repeat([]int{biggest}, width+1), make([]bool, width+1)
		j := 0
		for owner[j] != 0 {
			used[j] = true
			row, step, next := owner[j], biggest, 0
			for k := 1; k <= width; k++ {
				if used[k] {
					continue
				}
				if c := cost(row, k) - u[row] - v[k]; c < least[k] {
					least[k], back[k] = c, j
				}
				if least[k] < step {
					step, next = least[k], k
				}
			}
			for k := range used {
				if used[k] {
					u[owner[k]] += step
					v[k] -= step
				} else if k > 0 {
					least[k] -= step
				}
			}
			j = next
		}
		for j != 0 {
			owner[j] = owner[back[j]]
			j = back[j]
		}
	}
	total := 0
	for j := 1; j <= columns; j++ {
		if owner[j] != 0 {
			total += w[owner[j]-1][j-1]
		}
	}
	return total
}

// cheapest is the first of the cheapest pairings: for each left glove in turn the first partner with which the rest can still be worth as much as it has to be.
func (s sample) cheapest() []int {
	w := s.worths()
	left := greatest(w, len(s.r))
	m := slices.Repeat([]int{-1}, len(s.l))
	for i := range m {
		for j := range s.r {
			if w[i][j] == 0 {
				continue
			}
			rest := without(w[i+1:], j)
			if w[i][j]+greatest(rest, len(s.r)) == left {
				m[i] = j
				left -= w[i][j]
				w = append(slices.Clone(w[:i+1]), rest...)
				break
			}
		}
	}
	return m
}

// without has zeros in a column.
func without(w [][]int, column int) [][]int {
	var l [][]int
	for _, row := range w {
		row = slices.Clone(row)
		row[column] = 0
		l = append(l, row)
	}
	return l
}

// mostUpTo is the greatest size of a pairing of pairs that cost at most so much.
func (s sample) mostUpTo(cost int) int {
	w := s.worths()
	for i, row := range w {
		for j := range row {
			if s.allows(i, j) && s.price(i, j) <= cost {
				row[j] = 1
			} else {
				row[j] = 0
			}
		}
	}
	return greatest(w, len(s.r))
}

func (s sample) most() int { return s.mostUpTo(biggest) }

// isProof reports whether prices are a proof.
func (s sample) isProof(a, b []int) bool {
	for _, x := range slices.Concat(a, b) {
		if x < 0 || x > full {
			return false
		}
	}
	for i := range a {
		for j := range b {
			if s.allows(i, j) && a[i]+b[j] < full-s.price(i, j) {
				return false
			}
		}
	}
	return true
}

func (p pile) allows(i, j int) bool {
	_, is := price(p.h[i], p.h[j], p.u)
	return i != j && is
}

func (p pile) isMatching(m []int) bool {
	if len(m) != len(p.h) {
		return false
	}
	for i, j := range m {
		if j != -1 && (j < 0 || j >= len(m) || !p.allows(i, j) || m[j] != i) {
			return false
		}
	}
	return true
}

// allMatchings are all matchings of a heap.
func (p pile) allMatchings() [][]int {
	var l [][]int
	var choose func(m []int, i int)
	choose = func(m []int, i int) {
		if i == len(m) {
			l = append(l, slices.Clone(m))
			return
		}
		choose(m, i+1)
		for j := range i {
			if m[i] == -1 && m[j] == -1 && p.allows(i, j) {
				m[i], m[j] = j, i
				choose(m, i+1)
				m[i], m[j] = -1, -1
			}
		}
	}
	choose(slices.Repeat([]int{-1}, len(p.h)), 0)
	return l
}

// mostPairs is the greatest number of pairs of a matching, by all sets of gloves: the lowest glove of a set has no partner, or one of the others.
func (p pile) mostPairs() int {
	best := make([]int, 1<<len(p.h))
	for set := 1; set < len(best); set++ {
		i := 0
		for set>>i&1 == 0 {
			i++
		}
		rest := set ^ 1<<i
		best[set] = best[rest]
		for j := i + 1; j < len(p.h); j++ {
			if set>>j&1 == 1 && p.allows(i, j) {
				best[set] = max(best[set], 1+best[rest^1<<j])
			}
		}
	}
	return best[len(best)-1]
}

// oddClasses is the number of odd classes without the gloves of b: classes grow together pair by pair.
func (p pile) oddClasses(b []int) int {
	class := make([]int, len(p.h))
	for i := range class {
		class[i] = i
	}
	for i := range class {
		for j := range class {
			if from, to := class[i], class[j]; p.allows(i, j) && !slices.Contains(b, i) && !slices.Contains(b, j) {
				for k := range class {
					if class[k] == from {
						class[k] = to
					}
				}
			}
		}
	}
	odd := 0
	for c := range class {
		n := 0
		for i := range class {
			if class[i] == c && !slices.Contains(b, i) {
				n++
			}
		}
		odd += n % 2
	}
	return odd
}

// The oracles agree with each other, and with lists of all pairings and matchings.
func TestOracles(t *testing.T) {
	several := 0
	for _, s := range tinySamples() {
		most, cheapest, even := s.listed()
		same(t, fmt.Sprint("most ", s), fmt.Sprint(s.most()), fmt.Sprint(most))
		same(t, fmt.Sprint("cheapest ", s), fmt.Sprint(s.cheapest()), fmt.Sprint(cheapest))
		if s.mostUpTo(even) != most || even > 0 && s.mostUpTo(even-1) == most {
			t.Error("even", s, even)
		}
		least := sum(s.costs(cheapest))
		if len(slices.DeleteFunc(s.largest(), func(m []int) bool { return sum(s.costs(m)) > least })) > 1 {
			several++
		}
		for _, m := range s.allPairings() {
			if !s.isPairing(m) {
				t.Error(s, m)
			}
		}
	}
	if several < 300 {
		t.Error(several)
	}
	for _, p := range tinyPiles() {
		most := 0
		for _, m := range p.allMatchings() {
			most = max(most, size(m)/2)
			if !p.isMatching(m) {
				t.Error(p, m)
			}
		}
		if n := p.mostPairs(); n != most {
			t.Error(p, n, most)
		}
	}
}
