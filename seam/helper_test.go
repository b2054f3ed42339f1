package seam_test

import (
	"fmt"
	"math/rand/v2"
	"slices"
	"testing"

	"trank/api"
	"trank/seam"
)

const (
	biggest = int(^uint(0) >> 1)
	maxFuel = 100000
)

// The codes of the chapter's table.
const (
	take = iota
	goTo
	lock
	sew
	cut
	repeat
)

func join(a, b, length, thread int) seam.Seam {
	return seam.Seam{A: a, B: b, Len: length, Thread: thread}
}

func graph(n int, l ...seam.Seam) seam.Graph { return seam.Graph{N: n, Seams: l} }

// path is a graph of seams from joint to joint, each with its number as its length.
func path(thread int, joints ...int) seam.Graph {
	g := graph(16)
	for i := 1; i < len(joints); i++ {
		g.Seams = append(g.Seams, join(joints[i-1], joints[i], i, thread))
	}
	return g
}

func there(i int) seam.Move { return seam.Move{Seam: i} }

func back(i int) seam.Move { return seam.Move{Seam: i, Back: true} }

// alone are runs of one move each.
func alone(l ...seam.Move) [][]seam.Move {
	var runs [][]seam.Move
	for _, m := range l {
		runs = append(runs, []seam.Move{m})
	}
	return runs
}

func op(code, arg int) seam.Op { return seam.Op{Code: code, Arg: arg} }

func sewBack(arg int) seam.Op { return seam.Op{Code: sew, Arg: arg, Back: true} }

// fails is what show returns of an error.
func fails(e api.Errno) string { return fmt.Sprint("error ", int(e)) }

func ok[T any](x T) string { return show(x, api.OK) }

// show is the text of a result; it also tells of a result beside an error.
func show[T any](x T, e api.Errno) string {
	if e != api.OK && fmt.Sprint(x) == fmt.Sprint(*new(T)) {
		return fails(e)
	}
	if e != api.OK {
		return fmt.Sprint(fails(e), " beside ", x)
	}
	return fmt.Sprint(x)
}

// show2 is show of two results.
func show2[A, B any](x A, y B, e api.Errno) string {
	type both struct {
		X A
		Y B
	}
	return show(both{x, y}, e)
}

func ok2[A, B any](x A, y B) string { return show2(x, y, api.OK) }

func same(t *testing.T, what, have, want string) {
	t.Helper()
	if have != want {
		t.Errorf("%s:\nhave %s\nwant %s", what, have, want)
	}
}

// must is the result of a call that has to be OK.
func must[T any](t *testing.T) func(x T, e api.Errno) T {
	return func(x T, e api.Errno) T {
		t.Helper()
		if e != api.OK {
			t.Error(fails(e))
		}
		return x
	}
}

// dice makes the same samples in every run.
func dice() *rand.Rand { return rand.New(rand.NewPCG(7, 16)) }

// shape says what random graphs are like: their greatest length, their number of threads, and how far the joints of a seam may be apart.
type shape struct{ length, threads, reach int }

func randomShape(d *rand.Rand) shape {
	return shape{[]int{1, 2, 5, 50, 10000}[d.IntN(5)], []int{1, 1, 2, 3, 8}[d.IntN(5)], []int{0, 1, 1, 2, 3, 16}[d.IntN(6)]}
}

// randomGraph has loops, seams beside each other, and joints without seams.
func randomGraph(d *rand.Rand, n, seams int) seam.Graph {
	s := randomShape(d)
	order := d.Perm(n)
	g := graph(n)
	for range seams {
		a := d.IntN(n)
		b := (a + s.reach - d.IntN(2*s.reach+1) + 16*n) % n
		if d.IntN(12) == 0 {
			b = a
		}
		g.Seams = append(g.Seams, join(order[a], order[b], 1+d.IntN(s.length), d.IntN(s.threads)))
	}
	return g
}

func randomGraphs(count, joints, seams int) []seam.Graph {
	d := dice()
	var l []seam.Graph
	for range count {
		n := 1 + d.IntN(joints)
		l = append(l, randomGraph(d, n, min(d.IntN(seams+1), d.IntN(4*n))))
	}
	return l
}

// fullGraphs have 16 joints or 64 seams, or both.
func fullGraphs(count int) []seam.Graph {
	d := dice()
	var l []seam.Graph
	for i := range count {
		switch i % 4 {
		case 0:
			l = append(l, randomGraph(d, 16, 64))
		case 1:
			l = append(l, randomGraph(d, 1+d.IntN(16), 64))
		default:
			l = append(l, randomGraph(d, 16, 8+d.IntN(30)))
		}
	}
	return l
}

// oddGraphs have 16 joints that are connected, all of them or nearly all of odd degree.
func oddGraphs(count int) []seam.Graph {
	d := dice()
	var l []seam.Graph
	for i := range count {
		longest := []int{3, 100, 10000}[i%3]
		add := func(g *seam.Graph, a, b int) {
			g.Seams = append(g.Seams, join(a, b, 1+d.IntN(longest), d.IntN(3)))
		}
		g := graph(16)
		for j := 1; j < 16; j++ {
			add(&g, j, d.IntN(j))
		}
		for range d.IntN(20) {
			add(&g, d.IntN(16), d.IntN(16))
		}
		even := slices.DeleteFunc(d.Perm(16), func(j int) bool { return degree(g, j, all)%2 == 1 })
		for k := 1; k < len(even); k += 2 {
			if i%2 == 0 || d.IntN(3) > 0 {
				add(&g, even[k-1], even[k])
			}
		}
		l = append(l, g)
	}
	return l
}

// star has a seam from joint 0 to each other.
func star(n int) seam.Graph {
	g := graph(n)
	for j := 1; j < n; j++ {
		g.Seams = append(g.Seams, join(0, j, j, 0))
	}
	return g
}

// triangle, square and single are the graphs of the chapter's examples.
func triangle() seam.Graph { return graph(3, join(0, 1, 5, 0), join(1, 2, 4, 0), join(2, 0, 3, 0)) }

func square() seam.Graph { return graph(3, append(triangle().Seams, join(0, 2, 7, 1))...) }

func single() seam.Graph { return graph(2, join(0, 1, 5, 2)) }

// special are graphs with something of their own.
func special() []seam.Graph {
	long := graph(16)
	for j := range 15 {
		long.Seams = append(long.Seams, join(j+1, j, 10000, 7))
	}
	loops := graph(16)
	for i := range 64 {
		loops.Seams = append(loops.Seams, join(i%16, i%16, 1+i, i%8))
	}
	return []seam.Graph{
		graph(1), graph(2), graph(16), triangle(), square(), single(), star(4), star(15), star(16), long, loops,
		graph(1, join(0, 0, 1, 0)), graph(2, join(1, 1, 1, 3)), graph(1, slices.Repeat([]seam.Seam{join(0, 0, 10000, 7)}, 64)...),
		graph(2, slices.Repeat([]seam.Seam{join(0, 1, 3, 0)}, 64)...), graph(2, slices.Repeat([]seam.Seam{join(1, 0, 10000, 7)}, 63)...),
		graph(4, join(0, 1, 1, 0), join(2, 3, 1, 0)), graph(4, join(0, 1, 1, 0), join(2, 3, 1, 1), join(1, 2, 1, 2)), graph(3, join(1, 2, 4, 0), join(2, 1, 2, 0)),
		path(0, 0, 1, 2, 3, 4, 0, 2, 4, 1, 3, 0), path(0, 3, 4, 5, 3, 6, 7, 3), path(5, 15, 14, 13, 15, 0), path(0, 1, 2, 3, 4, 5, 3, 2, 6, 1),
		// The walk between the joints of odd degree that is shortest is not the one of the fewest seams.
		graph(4, join(0, 1, 9, 0), join(0, 2, 2, 0), join(2, 3, 2, 0), join(3, 1, 2, 0), join(0, 0, 1, 0)),
		// Each joint is nearest to the one that pairs must not take.
		graph(4, join(0, 1, 10, 0), join(1, 2, 1, 0), join(2, 3, 10, 0), join(1, 3, 10, 0), join(0, 2, 10, 0), join(0, 3, 30, 0)),
	}
}

// tinyGraphs are so small that all sets of seams can be listed.
func tinyGraphs() []seam.Graph {
	l := []seam.Graph{graph(1), graph(3), triangle(), square(), single(), star(4)}
	return slices.Concat(l, randomGraphs(400, 5, 7), randomGraphs(300, 3, 8))
}

// graphs are those to which every function is applied.
func graphs() []seam.Graph {
	return slices.Concat(tinyGraphs(), randomGraphs(300, 16, 40), fullGraphs(80), oddGraphs(30), special())
}

// randomSewing is a sewing made from one with the fewest runs: runs are divided, turned round and exchanged.
func randomSewing(t *testing.T, d *rand.Rand, g seam.Graph) [][]seam.Move {
	var out [][]seam.Move
	for _, run := range must[[][]seam.Move](t)(seam.Runs(g)) {
		for len(run) > 0 {
			k := len(run)
			if d.IntN(2) == 0 {
				k = 1 + d.IntN(k)
			}
			part := slices.Clone(run[:k])
			if d.IntN(2) == 0 {
				part = turned(part)
			}
			out = append(out, part)
			run = run[k:]
		}
	}
	d.Shuffle(len(out), func(i, j int) { out[i], out[j] = out[j], out[i] })
	return out
}

// turned is a walk from its end to its beginning.
func turned(walk []seam.Move) []seam.Move {
	var l []seam.Move
	for _, m := range slices.Backward(walk) {
		l = append(l, seam.Move{Seam: m.Seam, Back: !m.Back})
	}
	return l
}

// randomOp is valid; it is of a joint and a seam of the graph more often than not.
func randomOp(d *rand.Rand, g seam.Graph) seam.Op {
	usual := d.IntN(5) > 0
	switch code := d.IntN(6); code {
	case take:
		return op(take, d.IntN(8))
	case goTo:
		if usual {
			return op(goTo, d.IntN(g.N))
		}
		return op(goTo, d.IntN(16))
	case sew:
		x := seam.Op{Code: sew, Arg: d.IntN(64), Back: d.IntN(2) == 0}
		if usual && len(g.Seams) > 0 {
			x.Arg = d.IntN(len(g.Seams))
		}
		return x
	case repeat:
		return op(repeat, []int{0, 1, 2, 3, 7, 99}[d.IntN(6)])
	default:
		return op(code, 0)
	}
}

// program is one for a graph, with its fuel.
type program struct {
	g    seam.Graph
	p    []seam.Op
	fuel int
}

func (x program) String() string { return fmt.Sprint(x.g, x.p, x.fuel) }

// randomProgram is one of a sewing in which some Ops are lost, others are added or exchanged, and some are repeated.
func randomProgram(t *testing.T, d *rand.Rand, g seam.Graph) program {
	p := must[[]seam.Op](t)(seam.Compile(g, randomSewing(t, d, g)))
	changes := d.IntN(5)
	for range changes {
		i := d.IntN(len(p) + 1)
		switch d.IntN(6) {
		case 0:
			p = slices.Insert(p, i, randomOp(d, g))
		case 1:
			p = slices.Insert(p, i, op(repeat, d.IntN(3)))
		case 2:
			p = slices.Insert(p, i, op(repeat, d.IntN(100)), op(lock, 0))
		case 3:
			p = slices.Insert(p, i, op(goTo, d.IntN(16)))
		case 4:
			p = p[:i]
		case 5:
			p = slices.Delete(p, i/2, (i+1)/2)
		}
	}
	fuel := []int{0, d.IntN(10), d.IntN(200), 1000, maxFuel}[d.IntN(5)]
	return program{g, p, fuel}
}

// idleProgram is made of random Ops.
func idleProgram(d *rand.Rand, g seam.Graph) program {
	var p []seam.Op
	for range d.IntN(12) {
		p = append(p, randomOp(d, g))
	}
	return program{g, p, d.IntN(300)}
}

func programs(t *testing.T, each int) []program {
	d := dice()
	var l []program
	for _, g := range graphs() {
		for range each {
			l = append(l, randomProgram(t, d, g), idleProgram(d, g))
		}
	}
	return l
}

// badSeams are not valid in a graph of 3 joints.
func badSeams() []seam.Seam {
	var l []seam.Seam
	for _, x := range []int{-1, 3, 16, -biggest - 1, biggest} {
		l = append(l, join(x, 0, 1, 0), join(0, x, 1, 0), join(x, x, 1, 0))
	}
	for _, x := range []int{0, -1, 10001, -biggest - 1, biggest} {
		l = append(l, join(0, 1, x, 0))
	}
	for _, x := range []int{-1, 8, -biggest - 1, biggest} {
		l = append(l, join(0, 1, 1, x))
	}
	return l
}

func badGraphs() []seam.Graph {
	l := []seam.Graph{{}, graph(16, slices.Repeat([]seam.Seam{join(0, 0, 1, 0)}, 65)...), graph(1, make([]seam.Seam, 1000)...)}
	for _, n := range []int{-1, 0, 17, -biggest - 1, biggest} {
		l = append(l, graph(n), graph(n, join(0, 0, 1, 0)))
	}
	for _, s := range badSeams() {
		l = append(l, graph(3, s), graph(3, join(0, 1, 1, 0), s), graph(3, s, join(2, 1, 1, 0)), graph(3, append(slices.Repeat([]seam.Seam{join(1, 2, 3, 4)}, 63), s)...))
	}
	return l
}

// limitsOfOps are for each code its greatest Arg.
func limitsOfOps() []int { return []int{7, 15, 0, 63, 0, 99} }

func badOps() []seam.Op {
	var l []seam.Op
	for code, most := range limitsOfOps() {
		for _, x := range []int{-1, most + 1, -biggest - 1, biggest} {
			l = append(l, op(code, x))
		}
		if code == sew {
			l = append(l, sewBack(-1), sewBack(64))
		} else {
			l = append(l, seam.Op{Code: code, Back: true}, seam.Op{Code: code, Arg: most, Back: true})
		}
	}
	for _, x := range []int{-1, 6, -biggest - 1, biggest} {
		l = append(l, op(x, 0), op(x, 1))
	}
	return l
}

// badPrograms are no programs, but not too long.
func badPrograms() [][]seam.Op {
	var l [][]seam.Op
	for _, x := range badOps() {
		l = append(l, []seam.Op{x}, []seam.Op{op(take, 0), x}, []seam.Op{x, op(lock, 0)}, append(make([]seam.Op, 4095), x))
	}
	return l
}

// tooLong are programs of too many Ops, also such as are not valid.
func tooLong() [][]seam.Op {
	return [][]seam.Op{make([]seam.Op, 4097), make([]seam.Op, 100000), append(make([]seam.Op, 4096), op(6, 0)), append([]seam.Op{op(6, 0)}, make([]seam.Op, 4096)...)}
}

// call is a function of a graph with its name and its result as a text.
type call struct {
	name string
	text func(seam.Graph) string
}

// ofGraph are all functions of a graph, with other arguments that are valid where it is single(), and with some of which they fail.
func ofGraph() []call {
	return []call{
		{"Odd", func(g seam.Graph) string { return show(seam.Odd(g, 2)) }},
		{"Fewest", func(g seam.Graph) string { return show(seam.Fewest(g)) }},
		{"Runs", func(g seam.Graph) string { return show(seam.Runs(g)) }},
		{"Sews", func(g seam.Graph) string { return show(seam.Sews(g, alone(there(0)))) }},
		{"Far", func(g seam.Graph) string { return show2(seam.Far(g, 0, 1)) }},
		{"Round", func(g seam.Graph) string { return show(seam.Round(g, 0)) }},
		{"Tour", func(g seam.Graph) string { return show(seam.Tour(g, 0)) }},
		{"Pieces", func(g seam.Graph) string { return show(seam.Pieces(g)) }},
		{"Bridges", func(g seam.Graph) string { return show(seam.Bridges(g)) }},
		{"Run", func(g seam.Graph) string { return show(seam.Run(g, []seam.Op{op(take, 2), op(sew, 0)}, 9)) }},
		{"Compile", func(g seam.Graph) string { return show(seam.Compile(g, alone(there(0)))) }},
		{"Thread", func(g seam.Graph) string { return show(seam.Thread(g)) }},
		{"Compile form", func(g seam.Graph) string { return show(seam.Compile(g, alone(there(99)))) }},
		{"Run size", func(g seam.Graph) string { return show(seam.Run(g, tooLong()[0], 0)) }},
	}
}
