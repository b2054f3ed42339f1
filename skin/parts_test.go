package skin_test

import (
	"fmt"
	"testing"

	"trank/api"
	"trank/skin"
)

// label gives every place that can be reached from (x, y) the label n; corners tells whether corners connect.
func label(labels map[[2]int]int, x, y, n int, corners bool, is func(x, y int) bool) {
	if !is(x, y) || labels[[2]int{x, y}] != 0 {
		return
	}
	labels[[2]int{x, y}] = n
	for dy := -1; dy <= 1; dy++ {
		for dx := -1; dx <= 1; dx++ {
			if corners || dx == 0 || dy == 0 {
				label(labels, x+dx, y+dy, n, corners, is)
			}
		}
	}
}

// partsOf is Parts, searched for as the chapter defines it.
func partsOf(s []string, g int) []skin.Part {
	labels := map[[2]int]int{}
	var l []skin.Part
	for y := range s {
		for x := range s[y] {
			if usable(s, g, x, y) && labels[[2]int{x, y}] == 0 {
				label(labels, x, y, len(l)+1, false, func(x, y int) bool { return usable(s, g, x, y) })
				l = append(l, skin.Part{})
			}
		}
	}
	for i := range l {
		is := func(x, y int) bool { return labels[[2]int{x, y}] == i+1 }
		part := made(len(s[0]), len(s), func(x, y int) int {
			if is(x, y) {
				return 1
			}
			return 0
		})
		l[i] = skin.Part{Cells: countUsable(part, 1), Edge: edgeOf(part), Holes: holesOf(part), Box: leastBox(part)}
	}
	return l
}

func edgeOf(part []string) int {
	n := 0
	for y := range part {
		for x := range part[y] {
			for _, d := range [][2]int{{1, 0}, {-1, 0}, {0, 1}, {0, -1}} {
				if usable(part, 1, x, y) && !usable(part, 1, x+d[0], y+d[1]) {
					n++
				}
			}
		}
	}
	return n
}

// holesOf counts the classes of the cells around a part, with a margin of one cell, and leaves out the infinite one.
func holesOf(part []string) int {
	labels := map[[2]int]int{}
	n := 0
	outside := func(x, y int) bool {
		return x >= -1 && y >= -1 && x <= len(part[0]) && y <= len(part) && !usable(part, 1, x, y)
	}
	for y := -1; y <= len(part); y++ {
		for x := -1; x <= len(part[0]); x++ {
			if outside(x, y) && labels[[2]int{x, y}] == 0 {
				n++
				label(labels, x, y, n, true, outside)
			}
		}
	}
	return n - 1
}

// P3.6
func TestParts(t *testing.T) {
	for _, s := range samples() {
		if len(s)*len(s[0]) > 100 {
			continue
		}
		for _, g := range leasts(s) {
			same(t, fmt.Sprint(s, g), show(skin.Parts(s, g)), ok(partsOf(s, g)))
		}
	}
	for _, s := range [][]string{spiral(48), without(spiral(48), 1), rings()} {
		same(t, fmt.Sprint(s), show(skin.Parts(s, 1)), ok(partsOf(s, 1)))
	}
}

// P3.6
func TestPartsOf(t *testing.T) {
	part := func(cells, edge, holes int, box api.Rect) skin.Part {
		return skin.Part{Cells: cells, Edge: edge, Holes: holes, Box: box}
	}
	for _, c := range []struct {
		what string
		s    []string
		g    int
		want []skin.Part
	}{
		{"no cell usable", rows("0"), 1, nil},
		{"no cell usable at 9", plain(48, 48, "8"), 9, nil},
		{"one cell", rows("9"), 9, []skin.Part{part(1, 4, 0, r(0, 0, 1, 1))}},
		{"all", plain(48, 48, "1"), 1, []skin.Part{part(2304, 192, 0, r(0, 0, 48, 48))}},
		{"by first cells", rows("0001 0101 0100"), 1, []skin.Part{part(2, 6, 0, r(3, 0, 1, 2)), part(2, 6, 0, r(1, 1, 1, 2))}},
		{"corners do not connect leather", rows("10 01"), 1, []skin.Part{part(1, 4, 0, r(0, 0, 1, 1)), part(1, 4, 0, r(1, 1, 1, 1))}},
		{"corners connect holes", rows("1111 1011 1101 1111"), 1, []skin.Part{part(14, 24, 1, r(0, 0, 4, 4))}},
		{"two holes", rows("11111 10101 11111"), 1, []skin.Part{part(13, 24, 2, r(0, 0, 5, 3))}},
		{"a part in a hole", rows("11111 10001 10101 10001 11111"), 1, []skin.Part{part(16, 32, 1, r(0, 0, 5, 5)), part(1, 4, 0, r(2, 2, 1, 1))}},
		{"a ring in a hole", rows("1111111 1000001 1011101 1010101 1011101 1000001 1111111"), 1, []skin.Part{part(24, 48, 1, r(0, 0, 7, 7)), part(8, 16, 1, r(2, 2, 3, 3))}},
		{"a part that closes a hole off only with another one", rows("0110 1001 1001 0110"), 1, []skin.Part{part(2, 6, 0, r(1, 0, 2, 1)), part(2, 6, 0, r(0, 1, 1, 2)), part(2, 6, 0, r(3, 1, 1, 2)), part(2, 6, 0, r(1, 3, 2, 1))}},
		{"of greater grades", rows("393 191 333"), 3, []skin.Part{part(7, 16, 0, r(0, 0, 3, 3))}},
		{"holes of lower grades", rows("333 323 333"), 3, []skin.Part{part(8, 16, 1, r(0, 0, 3, 3))}},
	} {
		same(t, c.what, show(skin.Parts(c.s, c.g)), ok(c.want))
	}
	if l, e := skin.Parts(made(48, 48, func(x, y int) int { return (x + y) % 2 }), 1); len(l) != 1152 || e != api.OK {
		t.Error(len(l), e)
	}
	lattice := made(47, 47, func(x, y int) int { return 1 - x%2*(y%2) })
	same(t, "lattice", show(skin.Parts(lattice, 1)), ok([]skin.Part{part(47*47-23*23, 4*47+4*23*23, 23*23, r(0, 0, 47, 47))}))
}

// P3.12
func TestPartsSum(t *testing.T) {
	for _, s := range samples() {
		for g := 1; g <= 9; g++ {
			sum := 0
			for _, p := range must[[]skin.Part](t)(skin.Parts(s, g)) {
				sum += p.Cells
			}
			if sum != countUsable(s, g) {
				t.Error(s, g, sum)
			}
		}
	}
}
