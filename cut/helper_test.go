package cut_test

import (
	"fmt"
	"math/rand/v2"
	"slices"
	"strings"
	"testing"

	"trank/api"
	"trank/cut"
)

const biggest = int(^uint(0) >> 1)

// The Ops as the chapter numbers them.
const (
	opWaste = 0
	opPiece = 1
	opV     = 2
	opH     = 3
)

func r(x, y, w, h int) api.Rect { return api.Rect{X: x, Y: y, W: w, H: h} }

func kd(w, h, grade, worth int) cut.Kind {
	return cut.Kind{W: w, H: h, Grade: grade, Worth: worth}
}

func turning(w, h, grade, worth int) cut.Kind {
	return cut.Kind{W: w, H: h, Grade: grade, Worth: worth, Turn: true}
}

func node(op, arg int) cut.Node { return cut.Node{Op: op, Arg: arg} }

func turned(arg int) cut.Node { return cut.Node{Op: opPiece, Arg: arg, Turned: true} }

// rows is the board whose rows are the words of t.
func rows(t string) []string { return strings.Fields(t) }

// plain is a board of one grade.
func plain(w, h int, grade string) []string {
	return slices.Repeat([]string{strings.Repeat(grade, w)}, h)
}

// made is a board of w by h cells whose grades are computed.
func made(w, h int, grade func(x, y int) int) []string {
	var b []string
	for y := range h {
		row := ""
		for x := range w {
			row += fmt.Sprint(grade(x, y))
		}
		b = append(b, row)
	}
	return b
}

func grade(b []string, x, y int) int { return int(b[y][x] - '0') }

// fails is what show returns of an error.
func fails(e api.Errno) string { return fmt.Sprint("error ", int(e)) }

func ok[T any](x T) string { return show(x, api.OK) }

// show is the text of a result; it also tells of a result beside an error.
func show[T any](x T, e api.Errno) string {
	if e != api.OK && fmt.Sprint(x) == fmt.Sprint(*new(T)) {
		return fails(e)
	}
	if e != api.OK {
		return fmt.Sprint(fails(e), " beside ", x)
	}
	return fmt.Sprint(x)
}

// show2 is show of two results.
func show2[A, B any](x A, y B, e api.Errno) string {
	type both struct {
		X A
		Y B
	}
	return show(both{x, y}, e)
}

func ok2[A, B any](x A, y B) string { return show2(x, y, api.OK) }

func same(t *testing.T, what, have, want string) {
	t.Helper()
	if have != want {
		t.Errorf("%s:\nhave %s\nwant %s", what, have, want)
	}
}

// must is the result of a call that has to be OK.
func must[T any](t *testing.T) func(x T, e api.Errno) T {
	return func(x T, e api.Errno) T {
		t.Helper()
		if e != api.OK {
			t.Error(fails(e))
		}
		return x
	}
}

// dice makes the same samples in every run.
func dice() *rand.Rand { return rand.New(rand.NewPCG(5, 16)) }

func between(d *rand.Rand, low, high int) int { return low + d.IntN(high-low+1) }

// sample is a board with kinds.
type sample struct {
	b []string
	k []cut.Kind
}

func (s sample) String() string { return fmt.Sprint(s.b, s.k) }

func (s sample) w() int { return len(s.b[0]) }

func (s sample) h() int { return len(s.b) }

func (s sample) whole() api.Rect { return r(0, 0, s.w(), s.h()) }

// randomBoard is of few grades close to usual, or of one with a few others.
func randomBoard(d *rand.Rand, w, h, usual int) []string {
	odd := 1 + d.IntN(30)
	return made(w, h, func(x, y int) int {
		switch {
		case d.IntN(odd) > 0:
			return usual
		case d.IntN(3) == 0:
			return 0
		default:
			return max(0, min(9, usual+between(d, -2, 2)))
		}
	})
}

// randomKinds are worth about as much as they are large, or anything.
func randomKinds(d *rand.Rand, count, side, usual int) []cut.Kind {
	isAny := d.IntN(4) == 0
	var k []cut.Kind
	for range count {
		w, h := 1+d.IntN(side), 1+d.IntN(side)
		worth := w*h*10 + d.IntN(1+4*w*h)
		if isAny {
			worth = 1 + d.IntN([]int{3, 100, 1000000}[d.IntN(3)])
		}
		k = append(k, cut.Kind{W: w, H: h, Grade: max(1, min(9, usual+between(d, -1, 1))), Worth: worth, Turn: d.IntN(2) == 0})
	}
	if count > 1 && d.IntN(3) == 0 {
		k[count-1] = k[0]
	}
	return k
}

func randomSample(d *rand.Rand, side, kinds int) sample {
	w, h, usual := 1+d.IntN(side), 1+d.IntN(side), 1+d.IntN(9)
	return sample{randomBoard(d, w, h, usual), randomKinds(d, d.IntN(kinds+1), min(16, 1+max(w, h)), usual)}
}

func randomSamples(count, side, kinds int) []sample {
	d := dice()
	var l []sample
	for range count {
		l = append(l, randomSample(d, side, kinds))
	}
	return l
}

// tinySamples are so small that all their plans can be listed.
func tinySamples() []sample {
	d := dice()
	l := []sample{
		example(), {rows("10 11"), example().k}, {rows("111"), []cut.Kind{turning(1, 3, 1, 4)}}, {rows("111"), []cut.Kind{kd(1, 3, 1, 4)}},
		{rows("1"), nil}, {rows("0"), nil}, {rows("0"), []cut.Kind{kd(1, 1, 1, 1)}}, {rows("9"), []cut.Kind{turning(1, 1, 9, 1000000)}},
		{rows("22 22"), []cut.Kind{turning(2, 2, 2, 7), kd(2, 2, 2, 7)}},
		{rows("11 11"), []cut.Kind{turning(1, 2, 1, 5), turning(2, 1, 1, 5)}},
		{rows("111 111 111"), []cut.Kind{turning(1, 2, 1, 5)}},
		{rows("111 101 111"), []cut.Kind{turning(1, 2, 1, 5)}},
	}
	for _, side := range [][2]int{{1, 1}, {1, 2}, {2, 1}, {2, 2}, {1, 3}, {3, 1}, {4, 1}, {1, 5}, {3, 2}, {2, 3}} {
		for range 12 {
			usual := 1 + d.IntN(9)
			l = append(l, sample{randomBoard(d, side[0], side[1], usual), randomKinds(d, d.IntN(5), max(side[0], side[1]), usual)})
		}
	}
	return l
}

// example is that of the chapter.
func example() sample {
	return sample{rows("11 11"), []cut.Kind{kd(2, 1, 1, 5), kd(1, 1, 1, 2)}}
}

// special are boards with something of their own.
func special() []sample {
	lengths := func(low, high int) []cut.Kind {
		var k []cut.Kind
		for i := low; i <= high; i++ {
			k = append(k, turning(1, i, 1+i%5, i*i))
		}
		return k
	}
	full := slices.Repeat([]cut.Kind{turning(1, 1, 9, 1000000)}, 12)
	return []sample{
		{plain(16, 16, "9"), full}, {plain(16, 16, "0"), full}, {plain(16, 16, "9"), nil}, {plain(16, 1, "5"), lengths(2, 7)}, {plain(1, 16, "5"), lengths(2, 7)},
		{plain(16, 16, "9"), []cut.Kind{kd(16, 16, 9, 1000000), kd(1, 1, 1, 1)}},
		{plain(16, 15, "9"), []cut.Kind{turning(15, 16, 9, 1000000), kd(15, 16, 1, 999999)}},
		{plain(16, 16, "4"), []cut.Kind{turning(3, 5, 4, 16), turning(7, 2, 4, 15), turning(4, 4, 4, 17), turning(6, 6, 4, 40)}},
		{made(16, 16, func(x, y int) int { return (x*7 + y*5) % 10 }), lengths(1, 12)},
		{made(16, 13, func(x, y int) int { return 5 * min(1, (x*3+y*7)%23) }), lengths(1, 12)},
		staircase(8), staircase(16), deepest(),
		// A pinwheel, for which no cut goes through.
		{rows("111 111 111"), []cut.Kind{turning(2, 1, 1, 20), kd(1, 1, 2, 1)}},
		{rows("221 001 111"), []cut.Kind{turning(2, 1, 1, 20), kd(1, 1, 1, 1)}},
	}
}

// staircase has kinds for rows alone above its diagonal, and below it kinds for columns: a plan that gets them all goes round it.
func staircase(side int) sample {
	var k []cut.Kind
	for i := 1; i <= 6; i++ {
		k = append(k, kd(1, i, 2, 1+i*i*3), kd(i, 1, 3, 1+i*i*30))
	}
	return sample{made(side, side, func(x, y int) int {
		if x > y {
			return 3
		}
		return 2
	}), k}
}

// deepest is a board whose best plan changes its direction 25 times on a way; no plan with fewer changes is worth as much.
func deepest() sample {
	return sample{
		rows("2332330332333333 2233333333332333 3223333233333333 2222333332323333 2222233303320033 2223223333333323 2222222333323033 2222222232333333 2232022223022333 2222222322320303 2222222222233333 2222222322223333 2222223322222333 2222222222222233 2222223203202223 3222232322223222"),
		[]cut.Kind{kd(1, 10, 2, 7), kd(1, 1, 3, 31), kd(1, 2, 2, 12), kd(2, 1, 3, 68), kd(1, 3, 2, 28), kd(3, 1, 3, 321), kd(1, 4, 2, 62), kd(4, 1, 3, 481), kd(1, 5, 2, 96), kd(5, 1, 3, 671), kd(1, 6, 2, 109), kd(6, 1, 3, 1006)},
	}
}

// samples are boards to which every function is applied.
func samples() []sample {
	return slices.Concat(tinySamples(), randomSamples(250, 7, 6), randomSamples(25, 16, 12), special())
}

// badBoards are slices that are no boards.
func badBoards() [][]string {
	l := [][]string{
		nil, {}, {""}, {"", ""}, {"1", ""}, {"", "1"}, {"1", "11"}, {"11", "1"}, {"11", "11", "1"}, {"a"}, {"1a"}, {"11", "1/"}, {"1:", "11"}, {" 1"}, {"-1"}, {"\x00"}, {"½"},
		append(plain(16, 15, "1"), strings.Repeat("1", 17)), append(plain(16, 15, "1"), strings.Repeat("1", 15)),
	}
	// Skins that are too large, of which some are no skins.
	for _, side := range []int{17, 32, 48, 49, 1000} {
		l = append(l, plain(side, 1, "1"), plain(1, side, "1"), plain(side, 16, "1"), plain(16, side, "1"))
	}
	return append(l, plain(17, 17, "0"), plain(48, 48, "9"), make([]string, 16))
}

// badKinds are slices with a kind that is not valid, or with too many kinds.
func badKinds() [][]cut.Kind {
	l := [][]cut.Kind{slices.Repeat([]cut.Kind{kd(1, 1, 1, 1)}, 13), slices.Repeat([]cut.Kind{turning(16, 16, 9, 1000000)}, 14), make([]cut.Kind, 12), make([]cut.Kind, 13)}
	bad := []cut.Kind{{}, {Turn: true}, kd(17, 1, 1, 1), kd(1, 17, 1, 1), kd(1, 1, 10, 1), kd(1, 1, 1, 1000001)}
	for _, x := range []int{0, -1, -biggest - 1, biggest} {
		bad = append(bad, kd(x, 1, 1, 1), kd(1, x, 1, 1), kd(1, 1, x, 1), kd(1, 1, 1, x), kd(x, x, x, x))
	}
	for _, x := range bad {
		x.Turn = len(l)%2 == 0
		l = append(l, []cut.Kind{x}, []cut.Kind{kd(1, 1, 1, 1), x}, []cut.Kind{x, kd(1, 1, 1, 1)}, append(slices.Repeat([]cut.Kind{kd(16, 16, 9, 1000000)}, 11), x))
	}
	return l
}

// call is a function of a board and kinds with its name and with its result as a text.
type call struct {
	name string
	text func(b []string, k []cut.Kind) string
}

// ofBoard are all functions of a board and kinds, with other arguments that are valid, and with some of which they fail.
func ofBoard() []call {
	waste := []cut.Node{{}}
	return []call{
		{"Best", func(b []string, k []cut.Kind) string { return show(cut.Best(b, k)) }},
		{"Plan", func(b []string, k []cut.Kind) string { return show(cut.Plan(b, k)) }},
		{"Read", func(b []string, k []cut.Kind) string { return show2(cut.Read(b, k, waste)) }},
		{"Counts", func(b []string, k []cut.Kind) string { return show(cut.Counts(b, k, waste)) }},
		{"Rest", func(b []string, k []cut.Kind) string { return show(cut.Rest(b, k, waste)) }},
		{"Read no plan", func(b []string, k []cut.Kind) string { return show2(cut.Read(b, k, nil)) }},
		{"Counts no plan", func(b []string, k []cut.Kind) string { return show(cut.Counts(b, k, nil)) }},
		{"Rest no plan", func(b []string, k []cut.Kind) string { return show(cut.Rest(b, k, nil)) }},
		{"Prove", func(b []string, k []cut.Kind) string { return show(cut.Prove(b, k)) }},
		{"Check", func(b []string, k []cut.Kind) string { return show2(cut.Check(b, k, make([]int, 9))) }},
		{"Check no table", func(b []string, k []cut.Kind) string { return show2(cut.Check(b, k, nil)) }},
		{"Strict", func(b []string, k []cut.Kind) string { return show(cut.Strict(b, k, 1)) }},
		{"Strict too much", func(b []string, k []cut.Kind) string { return show(cut.Strict(b, k, 99)) }},
	}
}
