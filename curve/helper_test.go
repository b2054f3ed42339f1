package curve_test

import (
	"cmp"
	"fmt"
	"math/big"
	"math/rand/v2"
	"slices"
	"strings"
	"testing"

	"trank/api"
	"trank/curve"
)

const most = api.MaxPart

func f(num, den int) api.Frac { return api.Frac{Num: num, Den: den} }

func n(num int) api.Frac { return f(num, 1) }

// pts is a slice of whole points, of which (0, 0) is the first.
func pts(xy ...int) []api.Point {
	l := []api.Point{pt(n(0), n(0))}
	for i := 0; i < len(xy); i += 2 {
		l = append(l, pt(n(xy[i]), n(xy[i+1])))
	}
	return l
}

func pt(x, y api.Frac) api.Point { return api.Point{X: x, Y: y} }

// line is the curve of one segment from (0, 0) to (x, y).
func line(x, y api.Frac) []api.Point { return []api.Point{pt(n(0), n(0)), pt(x, y)} }

// bent has count points, of which no inner one is superfluous.
func bent(count int) []api.Point {
	l := pts()
	for i := 1; i < count; i++ {
		l = append(l, pt(n(i), n(2*i+i%2)))
	}
	return l
}

// straight has count points on one line.
func straight(count int) []api.Point {
	l := pts()
	for i := 1; i < count; i++ {
		l = append(l, pt(n(i), n(2*i)))
	}
	return l
}

func rat(x api.Frac) *big.Rat { return big.NewRat(int64(x.Num), int64(x.Den)) }

func compare(a, b api.Frac) int { return rat(a).Cmp(rat(b)) }

// fails is what show returns of an error.
func fails(e api.Errno) string { return fmt.Sprint("error ", int(e)) }

// show is the text of a result; it also tells of a result beside an error.
func show[T any](x T, e api.Errno) string {
	if e != api.OK && fmt.Sprint(x) == fmt.Sprint(*new(T)) {
		return fails(e)
	}
	if e != api.OK {
		return fmt.Sprint(fails(e), " beside ", x)
	}
	return fmt.Sprint(x)
}

func same(t *testing.T, what, have, want string) {
	t.Helper()
	if have != want {
		t.Errorf("%s:\nhave %s\nwant %s", what, have, want)
	}
}

// smallCurves are all curves whose points have whole parts up to m.
func smallCurves(m int) [][]api.Point {
	l := [][]api.Point{pts()}
	for i := 0; i < len(l); i++ {
		end := l[i][len(l[i])-1]
		for x := end.X.Num + 1; x <= m; x++ {
			for y := end.Y.Num + 1; y <= m; y++ {
				l = append(l, append(slices.Clone(l[i]), pt(n(x), n(y))))
			}
		}
	}
	return l[1:]
}

// dice makes the same curves in every run.
func dice() *rand.Rand { return rand.New(rand.NewPCG(2, 16)) }

// rising returns count different fractions above zero with parts up to num and den.
func rising(r *rand.Rand, count, num, den int) []api.Frac {
	var l []api.Frac
	for len(l) < count {
		x := big.NewRat(1+r.Int64N(int64(num)), 1+r.Int64N(int64(den)))
		y := f(int(x.Num().Int64()), int(x.Denom().Int64()))
		if !slices.Contains(l, y) {
			l = append(l, y)
		}
	}
	slices.SortFunc(l, compare)
	return l
}

// randomCurve has whole points, small fractions, or fractions that few steps make too large.
func randomCurve(r *rand.Rand, count int) []api.Point {
	k := [][2]int{{60, 1}, {60, 1}, {40, 4}, {100, 12}, {2000, 50}, {40000, 300}, {most, most}}[r.IntN(7)]
	x, y := rising(r, count-1, k[0], k[1]), rising(r, count-1, k[0], k[1])
	l := pts()
	for i := range x {
		l = append(l, pt(x[i], y[i]))
	}
	return l
}

// randomCurves have mostly few points, some have up to 48.
func randomCurves(count int) [][]api.Point {
	r := dice()
	var l [][]api.Point
	for i := range count {
		points := 2 + r.IntN(5)
		if i%8 == 0 {
			points = 2 + r.IntN(api.MaxPoints-1)
		}
		l = append(l, randomCurve(r, points))
	}
	return l
}

// samples are curves to which every function of one curve is applied.
func samples() [][]api.Point {
	return slices.Concat(smallCurves(4), randomCurves(400), [][]api.Point{
		bent(47), bent(48), straight(47), straight(48),
		line(n(most), n(most)), line(f(1, most), n(most)), line(n(most), f(1, most)), line(f(1, most), f(1, most)), line(f(most, most-1), f(most-1, most)),
		append(line(f(1, most), f(1, most)), pt(n(1), n(1))), append(line(f(1, most), f(1, most-1)), pt(f(1, most-1), f(1, most-2))),
	})
}

// pairs are two curves each, to which every function of two curves is applied.
func pairs() [][2][]api.Point {
	var l [][2][]api.Point
	few := smallCurves(3)
	for _, a := range few {
		for _, b := range few {
			l = append(l, [2][]api.Point{a, b})
		}
	}
	many := randomCurves(1200)
	for i := 1; i < len(many); i++ {
		l = append(l, [2][]api.Point{many[i-1], many[i]}, [2][]api.Point{many[i], many[i]})
	}
	return append(l, crowds()...)
}

// crowds are pairs whose stops or whose grids have about 48 numbers.
func crowds() [][2][]api.Point {
	var l [][2][]api.Point
	for _, count := range []int{24, 25, 26, 47, 48} {
		a, b := bent(count), mirrored(bent(count))
		half := append(line(f(1, 2), f(1, 2)), b[1:]...)
		tiny := append(line(f(1, most), f(1, most)), b[1:]...)
		long := append(slices.Clone(b[:len(b)-1]), pt(n(1000), n(1000)))
		for _, x := range [][]api.Point{a, b, half[:min(len(half), 48)], tiny[:min(len(tiny), 48)], long, straight(count)} {
			l = append(l, [2][]api.Point{a, x}, [2][]api.Point{x, a}, [2][]api.Point{b, x}, [2][]api.Point{x, b})
		}
	}
	return l
}

// mirrored makes of bent a curve that crosses it between any two neighbours but the first ones.
func mirrored(c []api.Point) []api.Point {
	l := slices.Clone(c)
	for i := 1; i < len(l); i++ {
		l[i].Y = n(2*i + 1 - i%2)
	}
	return l
}

// badFracs are fractions that are not valid.
func badFracs() []api.Frac {
	return []api.Frac{{}, f(0, 2), f(2, 4), f(1, 0), f(1, -2), f(most+1, 1), f(1, most+1), f(-1, 0), f(most, most)}
}

// badCurves are slices that are no curves.
func badCurves() [][]api.Point {
	l := [][]api.Point{
		nil, {}, pts(), bent(49), straight(49), bent(48)[1:], make([]api.Point, 2), make([]api.Point, 48), make([]api.Point, 1000),
		pts(1, 1, 1, 2), pts(1, 1, 2, 1), pts(1, 1, 1, 1), pts(2, 1, 1, 2), pts(1, 2, 2, 1), pts(0, 1), pts(1, 0), pts(0, 0), pts(-1, 1), pts(1, -1), pts(1, 1, 2, 2, 3, 2), pts(1, 1, 2, 2, 2, 3),
		{pt(n(0), n(1)), pt(n(1), n(2))}, {pt(n(1), n(0)), pt(n(2), n(1))}, {pt(n(-1), n(0)), pt(n(1), n(1))}, {pt(n(0), n(-1)), pt(n(1), n(1))}, {pt(n(-1), n(-1)), pt(n(0), n(0)), pt(n(1), n(1))},
		{pt(n(1), n(1)), pt(n(0), n(0))}, {pt(f(0, 2), n(0)), pt(n(1), n(1))}, {pt(n(0), f(0, 2)), pt(n(1), n(1))}, {pt(n(0), f(0, 0)), pt(n(1), n(1))}, {pt(f(0, -1), n(0)), pt(n(1), n(1))},
	}
	for _, x := range badFracs() {
		l = append(l, line(x, n(1)), line(n(1), x), append(line(n(1), n(1)), pt(x, n(2)), pt(n(3), n(3))), append(line(n(1), n(1)), pt(n(2), x), pt(n(3), n(3))))
	}
	return l
}

// call is a function of the package with its name and with its result as a text.
type call struct {
	name string
	text func(a, b []api.Point) string
}

// ofOne are the functions of one curve; the numbers at which some of them are asked for lie in its domain or range.
func ofOne() []call {
	return []call{
		{"Slopes", func(a, _ []api.Point) string { return show(curve.Slopes(a)) }},
		{"Norm", func(a, _ []api.Point) string { return show(curve.Norm(a)) }},
		{"At", func(a, _ []api.Point) string { return show(curve.At(a, n(0))) }},
		{"Solve", func(a, _ []api.Point) string { return show(curve.Solve(a, n(0))) }},
		{"Inverse", func(a, _ []api.Point) string { return show(curve.Inverse(a)) }},
		{"Scale", func(a, _ []api.Point) string { return show(curve.Scale(a, n(2), n(3))) }},
		{"Cut", func(a, _ []api.Point) string { return show(curve.Cut(a, f(1, most))) }},
		{"Convex", func(a, _ []api.Point) string { return show(curve.Convex(a)) }},
		{"Concave", func(a, _ []api.Point) string { return show(curve.Concave(a)) }},
		{"Work", func(a, _ []api.Point) string { return show(curve.Work(a, n(0))) }},
	}
}

func ofTwo() []call {
	return []call{
		{"Join", func(a, b []api.Point) string { return show(curve.Join(a, b)) }},
		{"Sum", func(a, b []api.Point) string { return show(curve.Sum(a, b)) }},
		{"Series", func(a, b []api.Point) string { return show(curve.Series(a, b)) }},
		{"Compose", func(a, b []api.Point) string { return show(curve.Compose(a, b)) }},
		{"Upper", func(a, b []api.Point) string { return show(curve.Upper(a, b)) }},
		{"Lower", func(a, b []api.Point) string { return show(curve.Lower(a, b)) }},
		{"Crossings", func(a, b []api.Point) string { return show(curve.Crossings(a, b)) }},
		{"Under", func(a, b []api.Point) string { return show(curve.Under(a, b)) }},
		{"Same", func(a, b []api.Point) string { return show(curve.Same(a, b)) }},
	}
}

// texts of curves, to compare.
func texts(l ...[]api.Point) string { return strings.Trim(fmt.Sprint(l), " ") }

func TestHelpers(t *testing.T) {
	if l := smallCurves(4); len(l) != 69 {
		t.Error(len(l))
	}
	count := map[int]int{}
	for _, c := range samples() {
		count[cmp.Compare(len(c), 6)]++
	}
	if count[1] < 20 || count[-1] < 200 {
		t.Error(count)
	}
}
