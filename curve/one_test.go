package curve_test

import (
	"fmt"
	"slices"
	"testing"

	"trank/api"
	"trank/curve"
)

// P2.1
func TestValid(t *testing.T) {
	for _, c := range samples() {
		if !curve.Valid(c) {
			t.Error(c)
		}
	}
	for i, c := range badCurves() {
		if curve.Valid(c) {
			t.Error(i, c)
		}
	}
	for count := range 60 {
		if have, want := curve.Valid(bent(max(count, 1))[:count]), count >= 2 && count <= 48; have != want {
			t.Error(count, have)
		}
	}
}

// P2.1
func TestSlopesAndNorm(t *testing.T) {
	for _, c := range samples() {
		same(t, fmt.Sprint("Slopes ", c), show(curve.Slopes(c)), reckon(func() []api.Frac { return slopesOf(c) }))
		same(t, fmt.Sprint("Norm ", c), show(curve.Norm(c)), reckon(func() []api.Point { return normOf(c) }))
	}
	same(t, "straight", show(curve.Norm(straight(48))), ok(pts(47, 94)))
	same(t, "bent", show(curve.Norm(bent(48))), ok(bent(48)))
	same(t, "twice bent", show(curve.Norm(pts(1, 1, 2, 2, 3, 4, 4, 6, 5, 7))), ok(pts(2, 2, 4, 6, 5, 7)))
	same(t, "49 points", show(curve.Slopes(bent(49))), fails(api.ErrArg))
	same(t, "49 points", show(curve.Norm(straight(49))), fails(api.ErrArg))
	same(t, "steep", show(curve.Slopes(line(f(1, most), n(most)))), fails(api.ErrRange))
	same(t, "steep", show(curve.Norm(line(f(1, most), n(most)))), fails(api.ErrRange))
	same(t, "a difference", show(curve.Slopes(append(line(f(1, most), n(1)), pt(f(1, most-1), n(2))))), fails(api.ErrRange))
}

// P2.1: two normal curves are the same function if they have the same points, and a point on a segment changes no function.
func TestNormIsTheFunction(t *testing.T) {
	for _, c := range smallCurves(4) {
		m, e := curve.Norm(c)
		if e != api.OK || !curve.Valid(m) {
			t.Fatal(c, m, e)
		}
		l, _ := curve.Slopes(m)
		for i := 1; i < len(l); i++ {
			if l[i] == l[i-1] {
				t.Error(c, m)
			}
		}
		for x := range 6*end(c).X.Num + 1 {
			x := div(n(x), n(6))
			same(t, fmt.Sprint(c, x), show(curve.At(m, x)), show(curve.At(c, x)))
		}
	}
}

// asked are numbers in and about the range from 0 to the last of l.
func asked(l []api.Frac) []api.Frac {
	last := l[len(l)-1]
	r := append(slices.Clone(l), n(-1), f(-1, most), f(1, most), f(1, 2), n(1), f(7, 3), f(22, 7), f(355, 113), n(most), f(most, most-1))
	if last.Num > 1 && last.Num < most {
		r = append(r, f(last.Num*last.Den-1, last.Den*last.Den), f(last.Num*last.Den+1, last.Den*last.Den))
	}
	return slices.DeleteFunc(r, func(x api.Frac) bool { return x.Num > most || x.Den > most || !isLowest(x) })
}

func isLowest(x api.Frac) bool { return rat(x).Num().Int64() == int64(x.Num) }

func columns(c []api.Point) (x, y []api.Frac) {
	for _, p := range c {
		x, y = append(x, p.X), append(y, p.Y)
	}
	return x, y
}

// P2.2
func TestAtAndSolve(t *testing.T) {
	for _, c := range samples() {
		xs, ys := columns(c)
		for _, x := range asked(xs) {
			same(t, fmt.Sprint("At ", c, x), show(curve.At(c, x)), reckon(func() api.Frac { return atOf(c, x) }))
		}
		for _, y := range asked(ys) {
			same(t, fmt.Sprint("Solve ", c, y), show(curve.Solve(c, y)), reckon(func() api.Frac { return atOf(inverseOf(c), y) }))
		}
	}
	c := pts(2, 1, 4, 4)
	same(t, "below", show(curve.At(c, f(-1, most))), fails(api.ErrRange))
	same(t, "above", show(curve.At(c, f(most, most/4-1))), fails(api.ErrRange))
	same(t, "0", show(curve.At(c, n(0))), ok(n(0)))
	same(t, "end", show(curve.At(c, n(4))), ok(n(4)))
	// The Y of a point needs no slope, whether that is representable or not.
	steep := line(f(1, most), n(most))
	same(t, "end of a steep one", show(curve.At(steep, f(1, most))), ok(n(most)))
	same(t, "end of a flat one", show(curve.Solve(steep, n(most))), ok(f(1, most)))
	same(t, "within a flat one", show(curve.Solve(steep, n(1))), fails(api.ErrRange))
	// The difference of both X is not representable, but the value 1/31601 would be.
	steps := []api.Point{pt(n(0), n(0)), pt(f(1, 31663), f(1, 31663)), pt(n(1), n(1))}
	same(t, "a step", show(curve.At(steps, f(1, 31601))), fails(api.ErrRange))
	same(t, "a step", show(curve.At(line(n(1), n(1)), f(1, 31601))), ok(f(1, 31601)))
}

// P2.12
func TestSolveOfAt(t *testing.T) {
	solved := 0
	for _, c := range samples() {
		xs, _ := columns(c)
		for _, x := range asked(xs) {
			y, e := curve.At(c, x)
			if e != api.OK {
				continue
			}
			if z, e := curve.Solve(c, y); e == api.OK {
				solved++
				same(t, fmt.Sprint(c, x), ok(z), ok(x))
			}
		}
	}
	if solved < 1000 {
		t.Error(solved)
	}
}

// P2.3, P2.12
func TestInverse(t *testing.T) {
	for _, c := range samples() {
		i, e := curve.Inverse(c)
		same(t, fmt.Sprint("Inverse ", c), show(i, e), ok(inverseOf(c)))
		same(t, fmt.Sprint("Inverse of Inverse ", c), show(curve.Inverse(i)), ok(c))
	}
	same(t, "not normal", show(curve.Inverse(pts(1, 2, 2, 4))), ok(pts(2, 1, 4, 2)))
}

// P2.4
func TestScale(t *testing.T) {
	ks := []api.Frac{n(1), n(2), f(1, 3), f(7, 5), f(1, 50), n(1000), n(most), f(1, most), f(most, most-1)}
	for _, c := range samples() {
		for _, kx := range ks {
			for _, ky := range ks {
				same(t, fmt.Sprint("Scale ", c, kx, ky), show(curve.Scale(c, kx, ky)), reckon(func() []api.Point { return scaleOf(c, kx, ky) }))
			}
		}
	}
	same(t, "not normal", show(curve.Scale(pts(1, 1, 2, 2), n(2), n(3))), ok(pts(2, 3, 4, 6)))
	same(t, "kx", show(curve.Scale(pts(2, 1), n(most), n(1))), fails(api.ErrRange))
	same(t, "ky", show(curve.Scale(pts(1, 2), n(1), n(most))), fails(api.ErrRange))
}

// P2.4
func TestCut(t *testing.T) {
	for _, c := range samples() {
		xs, _ := columns(c)
		for _, x := range asked(xs) {
			if x.Num > 0 {
				same(t, fmt.Sprint("Cut ", c, x), show(curve.Cut(c, x)), reckon(func() []api.Point { return cutOf(c, x) }))
			}
		}
	}
	same(t, "not normal", show(curve.Cut(pts(1, 1, 2, 2, 3, 9), n(2))), ok(pts(1, 1, 2, 2)))
	same(t, "48 points", show(curve.Cut(bent(48), n(47))), ok(bent(48)))
	same(t, "zero", show(curve.Cut(pts(1, 1), n(0))), fails(api.ErrArg))
	same(t, "beyond", show(curve.Cut(pts(1, 1), n(2))), fails(api.ErrRange))
}

// P2.4
func TestJoin(t *testing.T) {
	for _, p := range pairs() {
		a, b := p[0], p[1]
		same(t, fmt.Sprint("Join ", a, b), show(curve.Join(a, b)), reckon(func() []api.Point { return joinOf(a, b) }))
	}
	for _, c := range []struct {
		a, b int
		want string
	}{
		{24, 25, ok(straight(48))}, {25, 24, ok(straight(48))}, {47, 2, ok(straight(48))}, {2, 47, ok(straight(48))}, {2, 2, ok(straight(3))},
		{25, 25, fails(api.ErrSize)}, {48, 2, fails(api.ErrSize)}, {2, 48, fails(api.ErrSize)}, {48, 48, fails(api.ErrSize)},
	} {
		same(t, fmt.Sprint("Join ", c.a, c.b), show(curve.Join(straight(c.a), straight(c.b))), c.want)
	}
	far := line(n(most), n(1))
	same(t, "EX", show(curve.Join(far, pts(1, 1))), fails(api.ErrRange))
	same(t, "EY", show(curve.Join(line(n(1), n(most)), pts(1, 1))), fails(api.ErrRange))
	same(t, "ErrSize before ErrRange", show(curve.Join(far, bent(48))), fails(api.ErrSize))
}

// P2.10
func TestWork(t *testing.T) {
	for _, c := range samples() {
		xs, _ := columns(c)
		for _, x := range asked(xs) {
			same(t, fmt.Sprint("Work ", c, x), show(curve.Work(c, x)), reckon(func() api.Frac { return workOf(c, x) }))
		}
	}
	c := pts(2, 1, 4, 4)
	for x, want := range map[api.Frac]api.Frac{n(0): n(0), n(1): f(1, 4), n(2): n(1), n(3): f(11, 4), n(4): n(6)} {
		same(t, fmt.Sprint("Work ", x), show(curve.Work(c, x)), ok(want))
	}
	same(t, "below", show(curve.Work(c, n(-1))), fails(api.ErrRange))
	same(t, "above", show(curve.Work(c, n(5))), fails(api.ErrRange))
	same(t, "too large", show(curve.Work(line(n(most), n(most)), n(most))), fails(api.ErrRange))
	// Add(q, s) is not representable, its half would be.
	steep := []api.Point{pt(n(0), n(0)), pt(f(1, 2), n(600000000)), pt(n(1), n(most))}
	same(t, "a step", show(curve.Work(steep, n(1))), fails(api.ErrRange))
	same(t, "before that step", show(curve.Work(steep, f(1, 2))), ok(n(150000000)))
}
