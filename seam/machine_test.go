package seam_test

import (
	"fmt"
	"slices"
	"testing"

	"trank/api"
	"trank/seam"
)

// P7.6

func TestRun(t *testing.T) {
	faults := map[int]int{}
	for _, x := range programs(t, 3) {
		want := report(x)
		faults[want.Fault]++
		same(t, fmt.Sprint("Run ", x), show(seam.Run(x.g, x.p, x.fuel)), ok(want))
	}
	for f := range 11 {
		if faults[f] < 20 {
			t.Error(faults)
		}
	}
}

// read is the program of a text.
func read(t *testing.T, text string) []seam.Op {
	t.Helper()
	return must[[]seam.Op](t)(seam.Read(text))
}

// ran is what Run reports of a text, with each list of numbers that are all 0 left out.
func ran(t *testing.T, g seam.Graph, text string, fuel int) string {
	t.Helper()
	r := must[seam.Report](t)(seam.Run(g, read(t, text), fuel))
	if len(r.Sewn) != len(g.Seams) || len(r.Used) != 8 {
		t.Error(r)
	}
	if slices.Max(append(r.Sewn, 0)) == 0 {
		r.Sewn = nil
	}
	if slices.Max(r.Used) == 0 {
		r.Used = nil
	}
	return fmt.Sprint(r)
}

// Each Op of the table: what it does, and where several faults are possible, the first.
func TestOps(t *testing.T) {
	g := graph(3, join(0, 1, 5, 0), join(1, 2, 4, 0), join(2, 0, 3, 1), join(0, 0, 100, 1))
	for _, x := range []struct{ text, want string }{
		{"", "{0 0 0 -1 0 [] []}"},
		{"t0", "{0 1 0 0 0 [] []}"}, {"t7", "{0 1 0 7 0 [] []}"}, {"t0 t0", "{1 1 0 0 0 [] []}"}, {"t5 t6 l", "{1 1 0 5 0 [] []}"},
		{"g2", "{0 1 2 -1 0 [] []}"}, {"g2 g0 g1", "{0 3 1 -1 0 [] []}"}, {"g1 g3", "{3 1 1 -1 0 [] []}"}, {"g15", "{3 0 0 -1 0 [] []}"}, {"t1 g2", "{2 1 0 1 0 [] []}"}, {"t1 g0", "{2 1 0 1 0 [] []}"}, {"t1 g3", "{2 1 0 1 0 [] []}"},
		{"l", "{4 0 0 -1 0 [] []}"}, {"t3 l l", "{0 3 0 3 0 [] [0 0 0 8 0 0 0 0]}"},
		{"s0", "{4 0 0 -1 0 [] []}"}, {"s4", "{4 0 0 -1 0 [] []}"}, {"s63-", "{4 0 0 -1 0 [] []}"}, {"t1 s4", "{5 1 0 1 0 [] []}"}, {"t1 s63", "{5 1 0 1 0 [] []}"}, {"t1 s0", "{6 1 0 1 0 [] []}"}, {"t1 s1", "{6 1 0 1 0 [] []}"},
		{"t0 s1", "{7 1 0 0 0 [] []}"}, {"t0 s0-", "{7 1 0 0 0 [] []}"}, {"t1 s2", "{7 1 0 1 0 [] []}"}, {"g1 t0 s0", "{7 2 1 0 0 [] []}"}, {"g1 t1 s3", "{7 2 1 1 0 [] []}"}, {"g1 t1 s3-", "{7 2 1 1 0 [] []}"},
		{"t0 s0 s1", "{0 3 2 0 0 [1 1 0 0] [27 0 0 0 0 0 0 0]}"}, {"t0 s0 s0- s0", "{0 4 1 0 0 [3 0 0 0] [45 0 0 0 0 0 0 0]}"}, {"t1 s2- s2 s3 s3-", "{0 5 0 1 0 [0 0 2 2] [0 618 0 0 0 0 0 0]}"}, {"t0 s0 s0", "{7 2 1 0 0 [1 0 0 0] [15 0 0 0 0 0 0 0]}"},
		{"c", "{4 0 0 -1 0 [] []}"}, {"t2 c c", "{4 2 0 -1 1 [] [0 0 2 0 0 0 0 0]}"}, {"t2 c t2 c t4 c g1", "{0 7 1 -1 3 [] [0 0 4 0 2 0 0 0]}"},
		{"r2", "{8 0 0 -1 0 [] []}"}, {"r0", "{8 0 0 -1 0 [] []}"}, {"t0 l r1", "{8 2 0 0 0 [] [4 0 0 0 0 0 0 0]}"}, {"r0 r0", "{9 0 0 -1 0 [] []}"}, {"r0 r0 l", "{9 0 0 -1 0 [] []}"}, {"r1 r2 r3", "{9 0 0 -1 0 [] []}"}, {"g1 r1 g2 r1 r1 t0", "{9 3 2 -1 0 [] []}"},
		{"r0 l", "{0 1 0 -1 0 [] []}"}, {"r0 l l", "{4 1 0 -1 0 [] []}"}, {"r0 g1 r0 g2", "{0 2 0 -1 0 [] []}"}, {"r0 g1 r2", "{8 1 0 -1 0 [] []}"}, {"r1 t1", "{0 2 0 1 0 [] []}"}, {"r2 t1", "{1 2 0 1 0 [] []}"},
		{"t4 r99 l c", "{0 102 0 -1 1 [] [0 0 0 0 398 0 0 0]}"}, {"t1 r3 s3 r2 c", "{4 7 0 -1 1 [0 0 0 3] [0 902 0 0 0 0 0 0]}"}, {"t0 r2 s0", "{7 3 1 0 0 [1 0 0 0] [15 0 0 0 0 0 0 0]}"}, {"g1 r3 g3", "{3 2 1 -1 0 [] []}"},
	} {
		same(t, x.text, ran(t, g, x.text, maxFuel), x.want)
	}
}

// Fuel is checked before each step, also of an Op that would fault, and not behind the last.
func TestFuel(t *testing.T) {
	for _, x := range []struct {
		text string
		fuel int
		want string
	}{
		{"", 0, "{0 0 0 -1 0 [] []}"}, {"g1", 0, "{10 0 0 -1 0 [] []}"}, {"g1", 1, "{0 1 1 -1 0 [] []}"}, {"g1 g0", 1, "{10 1 1 -1 0 [] []}"},
		{"l", 0, "{10 0 0 -1 0 [] []}"}, {"l", 1, "{4 0 0 -1 0 [] []}"}, {"r1", 0, "{10 0 0 -1 0 [] []}"}, {"r1 r1", 0, "{10 0 0 -1 0 [] []}"}, {"g1 r1", 1, "{10 1 1 -1 0 [] []}"}, {"g1 r1 r1", 1, "{10 1 1 -1 0 [] []}"}, {"g1 l", 1, "{10 1 1 -1 0 [] []}"},
		{"r0 l", 0, "{10 0 0 -1 0 [] []}"}, {"r0 l", 1, "{0 1 0 -1 0 [] []}"}, {"r1 l", 1, "{10 1 0 -1 0 [] []}"}, {"r1 l", 2, "{4 1 0 -1 0 [] []}"}, {"r0 l l", 1, "{10 1 0 -1 0 [] []}"},
		{"t0 r5 l", 4, "{10 4 0 0 0 [] [8 0 0 0 0 0 0 0]}"}, {"t0 r5 l", 7, "{0 7 0 0 0 [] [20 0 0 0 0 0 0 0]}"}, {"t0 r5 l c", 7, "{10 7 0 0 0 [] [20 0 0 0 0 0 0 0]}"},
	} {
		same(t, fmt.Sprint(x.text, " ", x.fuel), ran(t, single(), x.text, x.fuel), x.want)
	}
}

func TestRunOfInvalid(t *testing.T) {
	valid := []seam.Op{op(take, 0), op(lock, 0)}
	for _, fuel := range []int{-1, maxFuel + 1, -biggest - 1, biggest} {
		for _, p := range slices.Concat([][]seam.Op{nil, valid}, tooLong(), badPrograms()) {
			same(t, fmt.Sprint("Run fuel ", fuel), show(seam.Run(single(), p, fuel)), fails(api.ErrArg))
		}
	}
	for _, fuel := range []int{0, 1, maxFuel} {
		for _, p := range tooLong() {
			same(t, fmt.Sprint("Run of ", len(p)), show(seam.Run(single(), p, fuel)), fails(api.ErrSize))
			same(t, fmt.Sprint("Run of ", len(p)), show(seam.Run(graph(0), p, fuel)), fails(api.ErrArg))
		}
		for _, p := range badPrograms() {
			same(t, fmt.Sprint("Run of ", p), show(seam.Run(single(), p, fuel)), fails(api.ErrArg))
		}
		same(t, "Run", show(seam.Run(single(), make([]seam.Op, 4096), fuel)), ok(report(program{single(), make([]seam.Op, 4096), fuel})))
	}
}

// A valid program that is as long as it may be, with as much thread as may be used.
func TestLongRun(t *testing.T) {
	g := graph(16, slices.Repeat([]seam.Seam{join(15, 15, 10000, 7)}, 64)...)
	p := append([]seam.Op{op(goTo, 15), op(take, 7)}, slices.Repeat([]seam.Op{op(repeat, 99), op(sew, 63)}, 2047)...)
	r := must[seam.Report](t)(seam.Run(g, p, maxFuel))
	want := seam.Report{Fault: 10, Steps: 100000, At: 15, Held: 7, Sewn: make([]int, 64), Used: make([]int, 8)}
	want.Sewn[63] = 98998 // two steps come first, and one of each hundred is a repeat
	want.Used[7] = 98998 * 30000
	same(t, "Run", ok(r), ok(want))
	idle := slices.Repeat([]seam.Op{op(repeat, 0), op(cut, 0)}, 2048)
	same(t, "Run", show(seam.Run(g, idle, maxFuel)), ok(report(program{g, idle, maxFuel})))
}
