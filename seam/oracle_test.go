package seam_test

import (
	"fmt"
	"math/bits"
	"regexp"
	"slices"
	"strings"
	"testing"

	"trank/seam"
)

// What the chapter defines, as directly as possible.

func ends(s seam.Seam, back bool) (int, int) {
	if back {
		return s.B, s.A
	}
	return s.A, s.B
}

// degree is that of a joint in the seams for which among is true.
func degree(g seam.Graph, joint int, among func(i int) bool) int {
	n := 0
	for i, s := range g.Seams {
		for _, end := range []int{s.A, s.B} {
			if end == joint && among(i) {
				n++
			}
		}
	}
	return n
}

func all(int) bool { return true }

func ofThread(g seam.Graph, thread int) func(int) bool {
	return func(i int) bool { return g.Seams[i].Thread == thread }
}

func without(seams ...int) func(int) bool {
	return func(i int) bool { return !slices.Contains(seams, i) }
}

func odd(g seam.Graph, among func(int) bool) []int {
	var l []int
	for j := range g.N {
		if degree(g, j, among)%2 == 1 {
			l = append(l, j)
		}
	}
	return l
}

// reach is the set of all joints to which a walk of these seams leads from a joint.
func reach(g seam.Graph, from int, among func(int) bool) []bool {
	met := make([]bool, g.N)
	var visit func(j int)
	visit = func(j int) {
		met[j] = true
		for i, s := range g.Seams {
			for _, b := range []bool{false, true} {
				if a, to := ends(s, b); a == j && among(i) && !met[to] {
					visit(to)
				}
			}
		}
	}
	visit(from)
	return met
}

// classes are those of connected joints, each rising.
func classes(g seam.Graph, among func(int) bool) [][]int {
	var l [][]int
	for j := range g.N {
		met := reach(g, j, among)
		if slices.Index(met, true) < j {
			continue
		}
		var class []int
		for k, is := range met {
			if is {
				class = append(class, k)
			}
		}
		l = append(l, class)
	}
	return l
}

func bridges(g seam.Graph) []int {
	var l []int
	for i := range g.Seams {
		if len(classes(g, without(i))) > len(classes(g, all)) {
			l = append(l, i)
		}
	}
	return l
}

// isWalk reports whether moves are a walk of seams of the graph.
func isWalk(g seam.Graph, walk []seam.Move) bool {
	for i, m := range walk {
		if m.Seam < 0 || m.Seam >= len(g.Seams) {
			return false
		}
		if i == 0 {
			continue
		}
		_, end := ends(g.Seams[walk[i-1].Seam], walk[i-1].Back)
		if from, _ := ends(g.Seams[m.Seam], m.Back); from != end {
			return false
		}
	}
	return true
}

// times is how often each seam occurs in a walk.
func times(g seam.Graph, walk []seam.Move) []int {
	l := make([]int, len(g.Seams))
	for _, m := range walk {
		l[m.Seam]++
	}
	return l
}

func length(g seam.Graph, walk []seam.Move) int {
	n := 0
	for _, m := range walk {
		n += g.Seams[m.Seam].Len
	}
	return n
}

func isSewing(g seam.Graph, runs [][]seam.Move) bool {
	for _, run := range runs {
		if len(run) == 0 || !isWalk(g, run) {
			return false
		}
		for _, m := range run {
			if g.Seams[m.Seam].Thread != g.Seams[run[0].Seam].Thread {
				return false
			}
		}
	}
	for _, n := range times(g, slices.Concat(runs...)) {
		if n != 1 {
			return false
		}
	}
	return true
}

// isRound reports whether a walk is a round from a joint.
func isRound(g seam.Graph, from int, walk []seam.Move) bool {
	if !isWalk(g, walk) || slices.Contains(times(g, walk), 0) {
		return false
	}
	if len(walk) == 0 {
		return true
	}
	first, last := walk[0], walk[len(walk)-1]
	begin, _ := ends(g.Seams[first.Seam], first.Back)
	_, end := ends(g.Seams[last.Seam], last.Back)
	return begin == from && end == from
}

// runSets tells for each set of seams whether a run has just these.
func runSets(g seam.Graph) []bool {
	m := len(g.Seams)
	endsAt := make([]uint, 1<<m) // the joints where such runs can end, as bits
	for i, s := range g.Seams {
		endsAt[1<<i] = 1<<s.A | 1<<s.B
	}
	for set := range endsAt {
		for i, s := range g.Seams {
			if set>>i&1 == 1 || set == 0 || s.Thread != g.Seams[bits.TrailingZeros(uint(set))].Thread {
				continue
			}
			endsAt[set|1<<i] |= endsAt[set] >> s.A & 1 << s.B
			endsAt[set|1<<i] |= endsAt[set] >> s.B & 1 << s.A
		}
	}
	is := make([]bool, len(endsAt))
	for set, e := range endsAt {
		is[set] = e != 0
	}
	return is
}

// fewest is the least number of runs, of all ways to divide the seams.
func fewest(g seam.Graph) int {
	isRun := runSets(g)
	least := make([]int, len(isRun))
	for set := 1; set < len(least); set++ {
		least[set] = set
		for part := set; part > 0; part = (part - 1) & set {
			if isRun[part] {
				least[set] = min(least[set], 1+least[set&^part])
			}
		}
	}
	return least[len(least)-1]
}

// byClasses is the number of runs that P7.9 names.
func byClasses(g seam.Graph, thread int) int {
	n := 0
	for _, class := range classes(g, ofThread(g, thread)) {
		k := 0
		for _, j := range odd(g, ofThread(g, thread)) {
			if slices.Contains(class, j) {
				k++
			}
		}
		if degree(g, class[0], ofThread(g, thread)) > 0 {
			n += max(1, k/2)
		}
	}
	return n
}

// state is where a walk is, and which seams it has sewn, as bits.
type state struct{ at, sewn int }

// lengths are the least lengths of walks from a joint to all states that they reach; no walk takes a seam that may refuses.
func lengths(g seam.Graph, from int, may func(s state, i int) bool) map[state]int {
	least := map[state]int{{from, 0}: 0}
	due := map[int][]state{0: {{from, 0}}}
	for n, left := 0, 1; left > 0; n++ {
		for k := 0; k < len(due[n]); k++ {
			s := due[n][k]
			left--
			if least[s] < n {
				continue
			}
			for i, x := range g.Seams {
				for _, b := range []bool{false, true} {
					a, to := ends(x, b)
					next := state{to, s.sewn | 1<<i}
					was, met := least[next]
					if a != s.at || !may(s, i) || met && was <= n+x.Len {
						continue
					}
					least[next] = n + x.Len
					due[n+x.Len] = append(due[n+x.Len], next)
					left++
				}
			}
		}
		delete(due, n)
	}
	return least
}

func every(state, int) bool { return true }

// round is the length of the shortest round, of all walks.
func round(g seam.Graph, from int) (int, bool) {
	n, is := lengths(g, from, every)[state{from, 1<<len(g.Seams) - 1}]
	return n, is
}

// sewsOnce reports whether a round from a joint sews a seam exactly once.
func sewsOnce(g seam.Graph, from, once int) bool {
	may := func(s state, i int) bool { return i != once || s.sewn>>i&1 == 0 }
	_, is := lengths(g, from, may)[state{from, 1<<len(g.Seams) - 1}]
	return is
}

// twice is the length of the cheapest seams that make all degrees even, of all sets of seams.
func twice(g seam.Graph) int {
	least := biggest
	for set := range 1 << len(g.Seams) {
		among := func(i int) bool { return set>>i&1 == 1 }
		if slices.Equal(odd(g, among), odd(g, all)) {
			n := 0
			for i, s := range g.Seams {
				if among(i) {
					n += s.Len
				}
			}
			least = min(least, n)
		}
	}
	return least
}

// far is the least length of a walk between two joints.
func far(g seam.Graph, a, b int) (int, bool) {
	least := make([]int, g.N)
	for j := range least {
		least[j] = biggest / 2
	}
	least[a] = 0
	for range g.N {
		for _, s := range g.Seams {
			least[s.A] = min(least[s.A], least[s.B]+s.Len)
			least[s.B] = min(least[s.B], least[s.A]+s.Len)
		}
	}
	return least[b], least[b] < biggest/2
}

// paired is the least sum of the lengths between the joints of pairs, of all ways to pair a set of joints.
func paired(lengths [][]int, set int, known map[int]int) int {
	if set == 0 {
		return 0
	}
	if n, is := known[set]; is {
		return n
	}
	a := bits.Len(uint(set)) - 1
	least := biggest
	for b := range a {
		if set>>b&1 == 1 {
			least = min(least, lengths[a][b]+paired(lengths, set&^(1<<a|1<<b), known))
		}
	}
	known[set] = least
	return least
}

func sum(g seam.Graph) int {
	n := 0
	for _, s := range g.Seams {
		n += s.Len
	}
	return n
}

// longRound is the length of the shortest round of a graph all of whose seams are connected.
func longRound(g seam.Graph) int {
	lengths := make([][]int, g.N)
	for a := range lengths {
		for b := range g.N {
			n, _ := far(g, a, b)
			lengths[a] = append(lengths[a], n)
		}
	}
	set := 0
	for _, j := range odd(g, all) {
		set |= 1 << j
	}
	return sum(g) + paired(lengths, set, map[int]int{})
}

// unwound is the program without repeats: for each step its Op, and the number of the fault that is in the program itself.
type unwound struct {
	op    seam.Op
	fault int
}

func unwind(p []seam.Op, most int) []unwound {
	var l []unwound
	for i := 0; i < len(p) && len(l) <= most; i++ {
		switch {
		case p[i].Code != repeat:
			l = append(l, unwound{p[i], 0})
		case i == len(p)-1:
			return append(l, unwound{p[i], 8})
		case p[i+1].Code == repeat:
			return append(l, unwound{p[i], 9})
		default:
			l = append(l, unwound{p[i], 0})
			l = append(l, slices.Repeat([]unwound{{p[i+1], 0}}, p[i].Arg)...)
			i++
		}
	}
	return l
}

// faultOf is the number of the fault of an Op, by the order of the table.
func faultOf(g seam.Graph, r seam.Report, o seam.Op) int {
	held := r.Held >= 0
	switch {
	case o.Code == take && held:
		return 1
	case o.Code == goTo && held:
		return 2
	case o.Code == goTo && o.Arg >= g.N:
		return 3
	case (o.Code == lock || o.Code == sew || o.Code == cut) && !held:
		return 4
	case o.Code == sew && o.Arg >= len(g.Seams):
		return 5
	case o.Code == sew && g.Seams[o.Arg].Thread != r.Held:
		return 6
	}
	if o.Code == sew {
		if from, _ := ends(g.Seams[o.Arg], o.Back); from != r.At {
			return 7
		}
	}
	return 0
}

// after is the report after an Op that does not fault.
func after(g seam.Graph, r seam.Report, o seam.Op) seam.Report {
	r.Steps++
	switch o.Code {
	case take:
		r.Held = o.Arg
	case goTo:
		r.At = o.Arg
	case lock:
		r.Used[r.Held] += 4
	case sew:
		r.Used[r.Held] += 3 * g.Seams[o.Arg].Len
		r.Sewn[o.Arg]++
		_, r.At = ends(g.Seams[o.Arg], o.Back)
	case cut:
		r.Used[r.Held] += 2
		r.Held = -1
		r.Cuts++
	}
	return r
}

// report is what the machine does.
func report(x program) seam.Report {
	r := seam.Report{Held: -1, Sewn: make([]int, len(x.g.Seams)), Used: make([]int, 8)}
	for _, u := range unwind(x.p, x.fuel) {
		r.Fault = u.fault
		if r.Fault == 0 {
			r.Fault = faultOf(x.g, r, u.op)
		}
		if r.Steps == x.fuel {
			r.Fault = 10
		}
		if r.Fault != 0 {
			return r
		}
		r = after(x.g, r, u.op)
	}
	return r
}

// isText reports whether Text returns s of a program.
func isText(s string) bool { return form.MatchString(s) && strings.Count(s, " ") < 4096 }

var form = regexp.MustCompile(`^(` + word + `( ` + word + `)*)?\z`)

const word = `(t[0-7]|g[0-9]|g1[0-5]|l|s[0-9]-?|s[1-5][0-9]-?|s6[0-3]-?|c|r[0-9]|r[1-9][0-9])`

// TestOracles: values by hand.
func TestOracles(t *testing.T) {
	same(t, "degree", fmt.Sprint(degree(square(), 0, all), degree(square(), 1, all), degree(square(), 2, all), degree(path(0, 3, 3), 3, all)), "3 2 3 2")
	same(t, "odd", fmt.Sprint(odd(square(), all), odd(square(), ofThread(square(), 1)), odd(square(), without(3))), "[0 2] [0 2] []")
	same(t, "classes", fmt.Sprint(classes(graph(5, join(3, 1, 1, 0), join(1, 0, 1, 0)), all)), "[[0 1 3] [2] [4]]")
	same(t, "bridges", fmt.Sprint(bridges(path(0, 3, 4, 5, 3, 6, 6))), "[3]")
	same(t, "fewest", fmt.Sprint(fewest(triangle()), fewest(square()), fewest(star(4)), fewest(star(8)), fewest(graph(4, join(0, 1, 1, 0), join(2, 3, 1, 0))), fewest(graph(1))), "1 2 2 4 2 0")
	same(t, "byClasses", fmt.Sprint(byClasses(square(), 0), byClasses(square(), 1), byClasses(square(), 2), byClasses(star(8), 0)), "1 1 0 4")
	same(t, "round", fmt.Sprint(round(triangle(), 1)), "12 true")
	same(t, "round", fmt.Sprint(round(square(), 0)), "22 true")
	same(t, "round", fmt.Sprint(round(graph(3, join(1, 2, 1, 0)), 0)), "0 false")
	same(t, "round", fmt.Sprint(round(graph(3), 0)), "0 true")
	same(t, "twice", fmt.Sprint(twice(square()), twice(single()), twice(star(5)), twice(graph(2))), "3 5 10 0")
	same(t, "longRound", fmt.Sprint(longRound(square()), longRound(single()), longRound(star(5))), "22 10 20")
	same(t, "far", fmt.Sprint(far(square(), 0, 2)), "3 true")
	same(t, "far", fmt.Sprint(far(path(0, 5, 3, 1), 1, 5)), "3 true")
	same(t, "sewsOnce", fmt.Sprint(sewsOnce(triangle(), 0, 0), sewsOnce(single(), 0, 0)), "true false")
	walk := []seam.Move{there(0), there(1), there(2)}
	same(t, "isWalk", fmt.Sprint(isWalk(triangle(), walk), isWalk(triangle(), turned(walk)), isWalk(triangle(), []seam.Move{there(0), there(2)}), isWalk(triangle(), []seam.Move{there(3)})), "true true false false")
	same(t, "isRound", fmt.Sprint(isRound(triangle(), 0, walk), isRound(triangle(), 1, walk), isRound(triangle(), 0, walk[:2])), "true false false")
	same(t, "isSewing", fmt.Sprint(isSewing(triangle(), [][]seam.Move{walk}), isSewing(triangle(), [][]seam.Move{walk, walk}), isSewing(square(), [][]seam.Move{append(walk, there(3))})), "true false false")
	for text, want := range map[string]bool{"": true, "t0": true, "t8": false, "g15 l": true, "g16": false, "g01": false, "s63-": true, "s64": false, "r99 c": true, "r99  c": false, " l": false, "l ": false, "c-": false} {
		if isText(text) != want {
			t.Error(text)
		}
	}
	same(t, "report", fmt.Sprint(report(program{single(), []seam.Op{op(take, 2), op(repeat, 2), op(lock, 0), op(sew, 0), op(cut, 0)}, 9})), "{0 6 1 -1 1 [1] [0 0 25 0 0 0 0 0]}")
	same(t, "report", fmt.Sprint(report(program{single(), []seam.Op{op(repeat, 2), op(repeat, 2)}, 0})), "{10 0 0 -1 0 [0] [0 0 0 0 0 0 0 0]}")
}
