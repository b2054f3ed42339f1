package skin_test

import (
	"fmt"
	"math/bits"
	"slices"
	"testing"

	"trank/api"
	"trank/skin"
)

// fewestOfBits returns the least number of rectangles for every set of cells of a grid of w by h: the first cell lies in some rectangle of which it is the first.
func fewestOfBits(w, h int) []int {
	cells := map[int][]int{}
	for _, a := range allRects(w, h) {
		set := 0
		for y := a.Y; y < a.Y+a.H; y++ {
			set |= (1<<a.W - 1) << (y*w + a.X)
		}
		start := a.Y*w + a.X
		cells[start] = append(cells[start], set)
	}
	least := make([]int, 1<<(w*h))
	for set := 1; set < len(least); set++ {
		least[set] = w*h + 1
		for _, c := range cells[bits.TrailingZeros(uint(set))] {
			if set&c == c {
				least[set] = min(least[set], 1+least[set&^c])
			}
		}
	}
	return least
}

// fewestByRows returns the least number of rectangles of a skin with few columns, row by row: the cells of a row are cut somewhere into pieces, and those that the row above has too belong to the same rectangles.
func fewestByRows(s []string, g int) int {
	cutting := map[string]int{"": 0}
	for y := range s {
		next := map[string]int{}
		for _, pieces := range cuttings(s[y], g) {
			best := 1 << 30
			for above, n := range cutting {
				for x := range pieces {
					if pieces[x] > '0' && (above == "" || above[x] != pieces[x]) {
						n++
					}
				}
				best = min(best, n)
			}
			next[pieces] = best
		}
		cutting = next
	}
	best := 1 << 30
	for _, n := range cutting {
		best = min(best, n)
	}
	return best
}

// cuttings are all ways to cut a row into pieces: for each cell 0, or at the first cell of a piece its length.
func cuttings(row string, g int) []string {
	if row == "" {
		return []string{""}
	}
	var l []string
	if !usable([]string{row}, g, 0, 0) {
		for _, rest := range cuttings(row[1:], g) {
			l = append(l, "0"+rest)
		}
		return l
	}
	for n := 1; n <= len(row) && usable([]string{row}, g, n-1, 0); n++ {
		for _, rest := range cuttings(row[n:], g) {
			l = append(l, fmt.Sprint(n)+"00000000"[:n-1]+rest)
		}
	}
	return l
}

// checkDivision checks P3.8 and P3.14: each usable cell is covered once, no other one, in order, and Fewest is the number of rectangles.
func checkDivision(t *testing.T, s []string, g int) int {
	t.Helper()
	n := must[int](t)(skin.Fewest(s, g))
	l := must[[]api.Rect](t)(skin.Split(s, g))
	covered := map[[2]int]int{}
	for _, a := range l {
		if a.W < 1 || a.H < 1 || !isUsable(s, g, a) {
			t.Error(s, g, a)
			return n
		}
		for y := a.Y; y < a.Y+a.H; y++ {
			for x := a.X; x < a.X+a.W; x++ {
				covered[[2]int{x, y}]++
				if covered[[2]int{x, y}] > 1 {
					t.Error(s, g, l)
				}
			}
		}
	}
	if len(covered) != countUsable(s, g) || len(l) != n || !slices.IsSortedFunc(l, inOrder) {
		t.Error(s, g, n, l)
	}
	return n
}

// P3.8, P3.14
func TestDivisionOfAllSmallSkins(t *testing.T) {
	for _, side := range [][2]int{{1, 1}, {1, 5}, {5, 1}, {2, 5}, {5, 2}, {3, 3}, {3, 4}, {4, 3}, {4, 4}} {
		for set, want := range fewestOfBits(side[0], side[1]) {
			s := ofBits(side[0], side[1], set)
			if n := checkDivision(t, s, 1); n != want {
				t.Fatal(s, n, want)
			}
		}
	}
}

// P3.8, P3.14
func TestDivisionOfLargerSkins(t *testing.T) {
	d := dice()
	for _, side := range [][2]int{{5, 4}, {4, 5}} {
		least := fewestOfBits(side[0], side[1])
		for range 4000 {
			set := d.IntN(len(least)) | d.IntN(len(least))
			s := ofBits(side[0], side[1], set)
			if n := checkDivision(t, s, 1); n != least[set] {
				t.Fatal(s, n, least[set])
			}
		}
	}
	for i := range 300 {
		w, h, odd := 3+d.IntN(5), 3+d.IntN(10), 2+d.IntN(8)
		s := made(w, h, func(x, y int) int {
			if d.IntN(odd) == 0 {
				return 4
			}
			return 5 + (x+y)%5
		})
		if n, want := checkDivision(t, s, 5), fewestByRows(s, 5); n != want {
			t.Fatal(i, s, n, want)
		}
	}
}

// P3.8, P3.14: many chords that meet each other.
func TestDivisionOfLattices(t *testing.T) {
	for _, c := range []struct{ w, h, dx, dy int }{{7, 48, 2, 2}, {7, 47, 2, 3}, {8, 31, 3, 2}, {7, 30, 3, 3}, {7, 48, 4, 2}, {8, 20, 2, 2}} {
		for shift := range 3 {
			s := made(c.w, c.h, func(x, y int) int {
				if (x+shift*(y/c.dy))%c.dx == 1 && y%c.dy == 1 {
					return 0
				}
				return 1
			})
			if n, want := checkDivision(t, s, 1), fewestByRows(s, 1); n != want {
				t.Error(s, n, want)
			}
		}
	}
}

// P3.8, P3.14
func TestDivisionOf(t *testing.T) {
	for _, c := range []struct {
		s    string
		want int
	}{
		{"0", 0}, {"1", 1}, {"11 11", 1}, {"10 01", 2}, {"11 10", 2}, {"010 111 010", 3}, {"111 101 111", 4}, {"011 101 111", 4}, {"101 010 101", 5},
		{"0110 1111 1111 0110", 3}, {"1111 1001 1111 1001", 4}, {"0100 0111 1110 0010", 4}, {"11011 11111 11011", 3}, {"110011 111111 111111 110011", 3},
		{"1101 1111 1011", 4}, {"1111 1011 1101 1111", 6}, {"11111 10101 11111", 5}, {"11111 10101 11111 10101 11111", 7},
	} {
		s := rows(c.s)
		if n := checkDivision(t, s, 1); n != c.want || n != fewestByRows(s, 1) {
			t.Error(c.s, n, c.want, fewestByRows(s, 1))
		}
	}
	for _, c := range []struct {
		s    []string
		want int
	}{
		{plain(48, 48, "0"), 0}, {plain(48, 48, "9"), 1}, {plain(48, 1, "1"), 1}, {plain(1, 48, "1"), 1},
		{made(48, 48, func(x, y int) int { return (x + y) % 2 }), 1152}, {rings(), 48}, {spiral(5), 5},
	} {
		if n := checkDivision(t, c.s, 1); n != c.want {
			t.Error(c.s, n, c.want)
		}
	}
}

// P3.8, P3.14: divisions of large skins, of which the other ways of laying them have as few rectangles.
func TestDivisionOfLargestSkins(t *testing.T) {
	for _, s := range slices.Concat(special(), randomSkins(12, 48)) {
		for _, g := range leasts(s) {
			n := checkDivision(t, s, g)
			for k := 1; k < 4; k++ {
				if m := checkDivision(t, must[[]string](t)(skin.Turn(s, k)), g); m != n {
					t.Error(s, g, k, n, m)
				}
			}
		}
	}
}

func TestOracles(t *testing.T) {
	for set, want := range fewestOfBits(4, 3) {
		if n := fewestByRows(ofBits(4, 3, set), 1); n != want {
			t.Error(set, n, want)
		}
	}
}
