package skin_test

import (
	"fmt"
	"slices"
	"testing"

	"trank/api"
	"trank/skin"
)

// around are the grades of the cells of the square around a cell; isInside tells of each whether it is a cell of s.
func around(s []string, k, x, y int, visit func(grade int, isInside bool)) {
	for v := y - k; v <= y+k; v++ {
		for u := x - k; u <= x+k; u++ {
			visit(grade(s, u, v), v >= 0 && v < len(s) && u >= 0 && u < len(s[0]))
		}
	}
}

func eroded(s []string, k int) []string {
	return made(len(s[0]), len(s), func(x, y int) int {
		least := 9
		around(s, k, x, y, func(grade int, _ bool) { least = min(least, grade) })
		return least
	})
}

func dilated(s []string, k int) []string {
	return made(len(s[0]), len(s), func(x, y int) int {
		greatest := 0
		around(s, k, x, y, func(grade int, isInside bool) {
			if isInside {
				greatest = max(greatest, grade)
			}
		})
		return greatest
	})
}

// spreadSamples are skins with the k at which something happens to them.
func spreadSamples(visit func(s []string, k int)) {
	for _, s := range slices.Concat(smallSkins(), randomSkins(120, 9)) {
		for k := range 6 {
			visit(s, k)
		}
		visit(s, 48)
	}
	for _, s := range slices.Concat(special(), randomSkins(8, 48)) {
		visit(s, 1)
	}
	full := plain(48, 48, "9")
	visit(full, 23)
	visit(full, 24)
	visit(full, 47)
	visit(full, 48)
	visit(append(slices.Clone(full[:47]), full[0][:47]+"8"), 47)
}

// P3.5
func TestErodeDilateOpen(t *testing.T) {
	spreadSamples(func(s []string, k int) {
		same(t, fmt.Sprint("Erode ", s, k), show(skin.Erode(s, k)), ok(eroded(s, k)))
		same(t, fmt.Sprint("Dilate ", s, k), show(skin.Dilate(s, k)), ok(dilated(s, k)))
		same(t, fmt.Sprint("Open ", s, k), show(skin.Open(s, k)), ok(dilated(eroded(s, k), k)))
	})
	s := rows("12345 67898 76543 21234 56789")
	same(t, "Erode 2", show(skin.Erode(s, 2)), ok(rows("00000 00000 00100 00000 00000")))
	same(t, "Dilate 1", show(skin.Dilate(s, 1)), ok(rows("78999 78999 78999 77899 67899")))
	same(t, "Open 0", show(skin.Open(s, 0)), ok(s))
	middle := func(x, y int) int {
		if x == 23 && y == 23 {
			return 9
		}
		return 0
	}
	same(t, "Erode 23", show(skin.Erode(plain(47, 47, "9"), 23)), ok(made(47, 47, middle)))
	same(t, "Dilate 48", show(skin.Dilate(made(48, 48, middle), 48)), ok(plain(48, 48, "9")))
	same(t, "Dilate 24", show(skin.Dilate(made(48, 48, middle), 24)), ok(plain(48, 48, "9")))
	same(t, "Dilate 23", show(skin.Dilate(made(48, 48, middle), 23)), ok(append(slices.Repeat([]string{plain(47, 1, "9")[0] + "0"}, 47), plain(48, 1, "0")...)))
}

// P3.5
func TestInvalidSpread(t *testing.T) {
	for _, s := range [][]string{plain(3, 3, "5"), plain(48, 48, "5"), plain(1, 1, "0"), nil} {
		for _, k := range []int{-1, 49, 50, -48, biggest, -biggest - 1} {
			same(t, fmt.Sprint("Erode ", k), show(skin.Erode(s, k)), fails(api.ErrArg))
			same(t, fmt.Sprint("Dilate ", k), show(skin.Dilate(s, k)), fails(api.ErrArg))
			same(t, fmt.Sprint("Open ", k), show(skin.Open(s, k)), fails(api.ErrArg))
		}
	}
}

// P3.11
func TestOpening(t *testing.T) {
	spreadSamples(func(s []string, k int) {
		open := must[[]string](t)(skin.Open(s, k))
		same(t, fmt.Sprint("Open of Open ", s, k), show(skin.Open(open, k)), ok(open))
		for y := range s {
			for x := range s[y] {
				if grade(open, x, y) > grade(s, x, y) {
					t.Error(s, k, open)
				}
			}
		}
	})
}

// P3.11
func TestEroding(t *testing.T) {
	for _, s := range slices.Concat(smallSkins(), randomSkins(60, 9)) {
		for k := range 4 {
			e := must[[]string](t)(skin.Erode(s, k))
			for g := 1; g <= 9; g++ {
				for y := range s {
					for x := range s[y] {
						square := r(x-k, y-k, 2*k+1, 2*k+1)
						want := within(square, r(0, 0, len(s[0]), len(s))) && isUsable(s, g, square)
						if (grade(e, x, y) >= g) != want {
							t.Error(s, k, g, x, y, e)
						}
					}
				}
			}
		}
	}
}
