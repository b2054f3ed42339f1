package seam_test

import (
	"fmt"
	"slices"
	"testing"

	"trank/api"
	"trank/seam"
)

// What all functions have in common.

// ErrArg before every other error.
func TestInvalidGraphs(t *testing.T) {
	for _, g := range badGraphs() {
		for _, c := range ofGraph() {
			same(t, fmt.Sprint(c.name, g), c.text(g), fails(api.ErrArg))
		}
		same(t, fmt.Sprint("Sews ", g), show(seam.Sews(g, nil)), fails(api.ErrArg))
		same(t, fmt.Sprint("Compile ", g), show(seam.Compile(g, nil)), fails(api.ErrArg))
		same(t, fmt.Sprint("Run ", g), show(seam.Run(g, nil, 0)), fails(api.ErrArg))
		for j := range 3 {
			same(t, fmt.Sprint("Far ", g), show2(seam.Far(g, j, j)), fails(api.ErrArg))
			same(t, fmt.Sprint("Tour ", g), show(seam.Tour(g, j)), fails(api.ErrArg))
		}
	}
}

// The other arguments of ofGraph are as their names say.
func TestArguments(t *testing.T) {
	wants := map[string]api.Errno{"Compile form": api.ErrForm, "Run size": api.ErrSize}
	for _, c := range ofGraph() {
		if want := wants[c.name]; want != api.OK {
			same(t, c.name, c.text(single()), fails(want))
		} else if have := c.text(single()); have[0] == 'e' {
			t.Error(c.name, have)
		}
	}
}

// roomy has room behind the elements: an append would write into it.
func roomy[T any](l []T) []T { return append(make([]T, 0, len(l)+100), l...) }

// Arguments are neither changed nor shared by a result: a result that is written over changes neither them nor the next result.
func TestNothingShared(t *testing.T) {
	d := dice()
	for _, g := range slices.Concat(tinyGraphs(), randomGraphs(100, 16, 40), special()) {
		g.Seams = roomy(g.Seams)
		runs := roomy(randomSewing(t, d, g))
		for i := range runs {
			runs[i] = roomy(runs[i])
		}
		p := roomy(must[[]seam.Op](t)(seam.Compile(g, runs)))
		all := func() string { return fmt.Sprint(g.N, g.Seams[:cap(g.Seams)], runs[:cap(runs)], p[:cap(p)]) }
		before := all()
		writeOver(t, func() ([]int, api.Errno) { return seam.Odd(g, 0) }, 77)
		writeOver(t, func() ([]seam.Move, api.Errno) { return seam.Tour(g, 0) }, back(77))
		writeOver(t, func() ([]int, api.Errno) { return seam.Bridges(g) }, 77)
		writeOver(t, func() ([]seam.Op, api.Errno) { return seam.Compile(g, runs) }, sewBack(77))
		writeOver(t, func() ([]int, api.Errno) { return seam.Thread(g) }, 77)
		writeOver(t, func() ([]seam.Op, api.Errno) { return seam.Read(textOf(p)) }, sewBack(77))
		writeOverRuns(t, g)
		writeOverReport(t, g, p)
		seam.Sews(g, runs)
		seam.Text(p)
		for _, c := range ofGraph() {
			first := c.text(g)
			same(t, "again "+c.name, c.text(g), first)
		}
		same(t, "arguments", all(), before)
	}
}

func writeOver[T any](t *testing.T, f func() ([]T, api.Errno), x T) {
	t.Helper()
	first, e := f()
	want := show(first, e)
	fill(first, x)
	same(t, "again", show(f()), want)
}

func fill[T any](l []T, x T) {
	for i := range l[:cap(l)] {
		l[:cap(l)][i] = x
	}
}

// No two runs of a result share memory.
func writeOverRuns(t *testing.T, g seam.Graph) {
	t.Helper()
	runs := must[[][]seam.Move](t)(seam.Runs(g))
	want := ok(runs)
	for i := range runs {
		others := ok(runs[i+1:])
		fill(runs[i], back(77))
		same(t, "other runs", ok(runs[i+1:]), others)
	}
	same(t, "again", show(seam.Runs(g)), want)
}

func writeOverReport(t *testing.T, g seam.Graph, p []seam.Op) {
	t.Helper()
	r := must[seam.Report](t)(seam.Run(g, p, maxFuel))
	want, used := ok(r), ok(r.Used)
	fill(r.Sewn, 77)
	same(t, "Used", ok(r.Used), used)
	fill(r.Used, 77)
	same(t, "again", show(seam.Run(g, p, maxFuel)), want)
}

// A nil slice and an empty one are the same as arguments.
func TestNilAndEmpty(t *testing.T) {
	for _, c := range ofGraph() {
		for n := range 4 {
			same(t, c.name, c.text(seam.Graph{N: n, Seams: []seam.Seam{}}), c.text(seam.Graph{N: n}))
		}
	}
	for _, g := range []seam.Graph{graph(2), single()} {
		same(t, "Sews", show(seam.Sews(g, [][]seam.Move{})), show(seam.Sews(g, nil)))
		same(t, "Sews", show(seam.Sews(g, [][]seam.Move{{}})), show(seam.Sews(g, [][]seam.Move{nil})))
		same(t, "Compile", show(seam.Compile(g, [][]seam.Move{})), show(seam.Compile(g, nil)))
		same(t, "Run", show(seam.Run(g, []seam.Op{}, 5)), show(seam.Run(g, nil, 5)))
	}
	same(t, "Text", show(seam.Text([]seam.Op{})), show(seam.Text(nil)))
}

// TestHelpers: the samples are what they should be.
func TestHelpers(t *testing.T) {
	runs, seams, pieces, loops, parted := map[int]int{}, map[int]int{}, map[int]int{}, 0, 0
	for _, g := range graphs() {
		runs[fewestByClasses(g)]++
		seams[len(g.Seams)]++
		pieces[len(classes(g, all))]++
		for _, s := range g.Seams {
			if s.A == s.B {
				loops++
			}
		}
		if g.N > 1 && !isConnected(g, 0) {
			parted++
		}
	}
	if len(runs) < 20 || seams[64] < 30 || len(pieces) < 15 || loops < 200 || parted < 100 {
		t.Error(runs, seams, pieces, loops, parted)
	}
}
