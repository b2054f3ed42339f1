package skin_test

import (
	"fmt"
	"slices"
	"testing"

	"trank/api"
	"trank/skin"
)

// usableRects are all usable rectangles in their order.
func usableRects(s []string, g int) []api.Rect {
	return slices.DeleteFunc(allRects(len(s[0]), len(s)), func(a api.Rect) bool { return !isUsable(s, g, a) })
}

// first is the text of the best rectangle of l, or of ErrNone.
func first(l []api.Rect, compare func(a, b api.Rect) int) string {
	if len(l) == 0 {
		return fails(api.ErrNone)
	}
	return ok(slices.MinFunc(l, compare))
}

// ordered compares pairs of numbers, the first that differ.
func ordered(pairs ...[2]int) int {
	for _, p := range pairs {
		if p[0] != p[1] {
			return p[0] - p[1]
		}
	}
	return 0
}

func largestOf(s []string, g int) string {
	return first(usableRects(s, g), func(a, b api.Rect) int {
		return ordered([2]int{b.W * b.H, a.W * a.H}, [2]int{a.Y, b.Y}, [2]int{a.X, b.X}, [2]int{b.W, a.W})
	})
}

func squareOf(s []string, g int) string {
	l := slices.DeleteFunc(usableRects(s, g), func(a api.Rect) bool { return a.W != a.H })
	return first(l, func(a, b api.Rect) int { return ordered([2]int{b.W, a.W}, [2]int{a.Y, b.Y}, [2]int{a.X, b.X}) })
}

func maximalOf(s []string, g int) []api.Rect {
	all := usableRects(s, g)
	var l []api.Rect
	for _, a := range all {
		if !slices.ContainsFunc(all, func(b api.Rect) bool { return a != b && within(a, b) }) {
			l = append(l, a)
		}
	}
	return l
}

// P3.7
func TestRects(t *testing.T) {
	for _, s := range slices.Concat(smallSkins(), randomSkins(150, 7), [][]string{spiral(9)}) {
		for _, g := range leasts(s) {
			same(t, fmt.Sprint("Largest ", s, g), show(skin.Largest(s, g)), largestOf(s, g))
			same(t, fmt.Sprint("Square ", s, g), show(skin.Square(s, g)), squareOf(s, g))
			same(t, fmt.Sprint("Maximal ", s, g), show(skin.Maximal(s, g)), ok(maximalOf(s, g)))
		}
	}
}

// P3.7: the first of several.
func TestFirstOfSeveral(t *testing.T) {
	for _, c := range []struct {
		s               string
		largest, square api.Rect
	}{
		{"0011 1100", r(2, 0, 2, 1), r(2, 0, 1, 1)},
		{"11011", r(0, 0, 2, 1), r(0, 0, 1, 1)},
		{"11 10", r(0, 0, 2, 1), r(0, 0, 1, 1)},
		{"111 100 100", r(0, 0, 3, 1), r(0, 0, 1, 1)},
		{"1111 1100", r(0, 0, 4, 1), r(0, 0, 2, 2)},
		{"11 11 10 10", r(0, 0, 2, 2), r(0, 0, 2, 2)},
		{"0100 0111 0111 0100", r(1, 1, 3, 2), r(1, 1, 2, 2)},
		{"0110 1111", r(1, 0, 2, 2), r(1, 0, 2, 2)},
		{"0100 1111", r(0, 1, 4, 1), r(1, 0, 1, 1)},
		{"1110 1111 0111", r(0, 0, 3, 2), r(0, 0, 2, 2)},
	} {
		same(t, "Largest "+c.s, show(skin.Largest(rows(c.s), 1)), ok(c.largest))
		same(t, "Square "+c.s, show(skin.Square(rows(c.s), 1)), ok(c.square))
	}
	same(t, "Largest", show(skin.Largest(plain(48, 48, "9"), 9)), ok(r(0, 0, 48, 48)))
	same(t, "Square", show(skin.Square(plain(48, 48, "9"), 9)), ok(r(0, 0, 48, 48)))
	same(t, "Maximal", show(skin.Maximal(plain(48, 48, "9"), 9)), ok([]api.Rect{r(0, 0, 48, 48)}))
	same(t, "Square", show(skin.Square(plain(48, 1, "9"), 9)), ok(r(0, 0, 1, 1)))
	same(t, "Square", show(skin.Square(plain(20, 48, "9"), 9)), ok(r(0, 0, 20, 20)))
}

// P3.7: ErrNone of Largest and Square only.
func TestNoCellUsable(t *testing.T) {
	for _, s := range [][]string{plain(1, 1, "0"), plain(48, 48, "0"), plain(48, 48, "4")} {
		for g := 5; g <= 9; g++ {
			same(t, "Largest", show(skin.Largest(s, g)), fails(api.ErrNone))
			same(t, "Square", show(skin.Square(s, g)), fails(api.ErrNone))
			same(t, "Maximal", show(skin.Maximal(s, g)), ok([]api.Rect{}))
			same(t, "Fewest", show(skin.Fewest(s, g)), ok(0))
			same(t, "Split", show(skin.Split(s, g)), ok([]api.Rect{}))
			same(t, "Parts", show(skin.Parts(s, g)), ok([]skin.Part{}))
		}
	}
}

// P3.13
func TestMaximal(t *testing.T) {
	for _, s := range slices.Concat(smallSkins(), randomSkins(60, 7)) {
		for _, g := range leasts(s) {
			l := must[[]api.Rect](t)(skin.Maximal(s, g))
			for _, a := range usableRects(s, g) {
				if !slices.ContainsFunc(l, func(b api.Rect) bool { return within(a, b) }) {
					t.Error(s, g, a, l)
				}
			}
		}
	}
	for _, s := range slices.Concat(special(), randomSkins(12, 48)) {
		l := must[[]api.Rect](t)(skin.Maximal(s, 1))
		largest, e := skin.Largest(s, 1)
		if e == api.OK && !slices.Contains(l, largest) {
			t.Error(s, largest, l)
		}
		if !slices.IsSortedFunc(l, inOrder) {
			t.Error(s, l)
		}
		for _, a := range l {
			if !isUsable(s, 1, a) || largest.W*largest.H < a.W*a.H {
				t.Error(s, a, largest)
			}
		}
	}
}

// inOrder compares rectangles by their order.
func inOrder(a, b api.Rect) int {
	return ordered([2]int{a.Y, b.Y}, [2]int{a.X, b.X}, [2]int{a.W, b.W}, [2]int{a.H, b.H})
}
