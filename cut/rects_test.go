package cut_test

import (
	"fmt"
	"testing"

	"trank/api"
	"trank/cut"
)

// P5.1
func TestRectsAndNumber(t *testing.T) {
	for w := 1; w <= 16; w++ {
		for h := 1; h <= 16; h++ {
			l := allRects(w, h)
			same(t, fmt.Sprint("Rects ", w, h), show(cut.Rects(w, h)), ok(len(l)))
			for i, a := range l {
				if n, e := cut.Number(w, h, a); n != i || e != api.OK {
					t.Fatal(w, h, a, n, e)
				}
			}
		}
	}
	same(t, "Rects", show(cut.Rects(16, 16)), ok(18496))
	same(t, "Rects", show(cut.Rects(1, 1)), ok(1))
	same(t, "Number", show(cut.Number(16, 16, r(15, 15, 1, 1))), ok(18495))
}

var badSides = []int{0, -1, 17, 18, 48, -16, biggest, -biggest - 1}

func badRects() []api.Rect {
	var l []api.Rect
	for _, bad := range []int{0, -1, -16, -biggest, -biggest - 1} {
		l = append(l, r(0, 0, bad, 1), r(0, 0, 1, bad), r(0, 0, bad, bad), r(99, 99, bad, 1), r(99, 99, 1, bad), r(biggest, biggest, biggest, bad))
		if bad < 0 {
			l = append(l, r(bad, 0, 1, 1), r(0, bad, 1, 1), r(bad, bad, 1, 1), r(bad, 0, 1-bad, 1), r(0, bad, 99, 1), r(bad, 0, 1, biggest), r(1, bad, 99, biggest))
		}
	}
	return l
}

// P5.1: ErrArg before ErrRange.
func TestInvalidNumbers(t *testing.T) {
	for _, bad := range badSides {
		for _, side := range []int{1, 2, 16, bad} {
			same(t, fmt.Sprint("Rects ", bad, side), show(cut.Rects(bad, side)), fails(api.ErrArg))
			same(t, fmt.Sprint("Rects ", side, bad), show(cut.Rects(side, bad)), fails(api.ErrArg))
			for _, a := range []api.Rect{r(0, 0, 1, 1), r(20, 0, 1, 1), r(0, 0, 0, 0)} {
				same(t, fmt.Sprint("Number ", bad, side, a), show(cut.Number(bad, side, a)), fails(api.ErrArg))
				same(t, fmt.Sprint("Number ", side, bad, a), show(cut.Number(side, bad, a)), fails(api.ErrArg))
			}
		}
	}
	for _, a := range badRects() {
		same(t, fmt.Sprint("Number ", a), show(cut.Number(3, 2, a)), fails(api.ErrArg))
		same(t, fmt.Sprint("Number ", a), show(cut.Number(16, 16, a)), fails(api.ErrArg))
		same(t, fmt.Sprint("Number ", a), show(cut.Number(17, 1, a)), fails(api.ErrArg))
	}
}

// P5.1
func TestNumbersOutside(t *testing.T) {
	for _, side := range [][2]int{{1, 1}, {3, 2}, {2, 3}, {16, 1}, {16, 16}} {
		w, h := side[0], side[1]
		l := []api.Rect{r(w, 0, 1, 1), r(0, h, 1, 1), r(0, 0, w+1, 1), r(0, 0, 1, h+1), r(w-1, 0, 2, 1), r(0, h-1, 1, 2), r(1, 0, w, 1), r(0, 1, 1, h), r(1, 1, w, h), r(17, 17, 1, 1)}
		for _, huge := range []int{biggest, biggest - 1, biggest/2 + 1, biggest/2 + 2} {
			l = append(l, r(huge, 0, 1, 1), r(0, huge, 1, 1), r(0, 0, huge, 1), r(0, 0, 1, huge), r(huge, 0, huge, 1), r(0, huge, 1, huge), r(huge, huge, huge, huge), r(1, 0, huge, 1), r(0, 1, 1, huge))
		}
		for _, a := range l {
			same(t, fmt.Sprint("Number ", w, h, a), show(cut.Number(w, h, a)), fails(api.ErrRange))
		}
	}
	for w := 1; w <= 3; w++ {
		for h := 1; h <= 3; h++ {
			for i := range 6 * 6 * 6 * 6 {
				a := r(i%6, i/6%6, 1+i/36%6, 1+i/216)
				if _, e := cut.Number(w, h, a); (e == api.OK) != (a.X+a.W <= w && a.Y+a.H <= h) || e != api.OK && e != api.ErrRange {
					t.Error(w, h, a, e)
				}
			}
		}
	}
}
