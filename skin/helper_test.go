package skin_test

import (
	"fmt"
	"math/rand/v2"
	"slices"
	"strings"
	"testing"

	"trank/api"
	"trank/skin"
)

const biggest = int(^uint(0) >> 1)

func r(x, y, w, h int) api.Rect { return api.Rect{X: x, Y: y, W: w, H: h} }

// rows is the skin whose rows are the words of t.
func rows(t string) []string { return strings.Fields(t) }

// plain is a skin of one grade.
func plain(w, h int, grade string) []string {
	return slices.Repeat([]string{strings.Repeat(grade, w)}, h)
}

// made is a skin of w by h cells whose grades are computed.
func made(w, h int, grade func(x, y int) int) []string {
	var s []string
	for y := range h {
		row := ""
		for x := range w {
			row += fmt.Sprint(grade(x, y))
		}
		s = append(s, row)
	}
	return s
}

func without(s []string, g int) []string {
	return made(len(s[0]), len(s), func(x, y int) int {
		if usable(s, g, x, y) {
			return 0
		}
		return 9
	})
}

func grade(s []string, x, y int) int {
	if y < 0 || y >= len(s) || x < 0 || x >= len(s[y]) {
		return 0
	}
	return int(s[y][x] - '0')
}

func usable(s []string, g, x, y int) bool { return grade(s, x, y) >= g }

func isUsable(s []string, g int, a api.Rect) bool {
	for y := a.Y; y < a.Y+a.H; y++ {
		for x := a.X; x < a.X+a.W; x++ {
			if !usable(s, g, x, y) {
				return false
			}
		}
	}
	return true
}

func countUsable(s []string, g int) int {
	n := 0
	for y := range s {
		for x := range s[y] {
			if usable(s, g, x, y) {
				n++
			}
		}
	}
	return n
}

// within reports whether a lies within b.
func within(a, b api.Rect) bool {
	return a.X >= b.X && a.Y >= b.Y && a.X+a.W <= b.X+b.W && a.Y+a.H <= b.Y+b.H
}

// allRects are the rectangles within a skin in their order.
func allRects(w, h int) []api.Rect {
	var l []api.Rect
	for y := range h {
		for x := range w {
			for i := 1; x+i <= w; i++ {
				for j := 1; y+j <= h; j++ {
					l = append(l, r(x, y, i, j))
				}
			}
		}
	}
	return l
}

// fails is what show returns of an error.
func fails(e api.Errno) string { return fmt.Sprint("error ", int(e)) }

func ok[T any](x T) string { return show(x, api.OK) }

// show is the text of a result; it also tells of a result beside an error.
func show[T any](x T, e api.Errno) string {
	if e != api.OK && fmt.Sprint(x) == fmt.Sprint(*new(T)) {
		return fails(e)
	}
	if e != api.OK {
		return fmt.Sprint(fails(e), " beside ", x)
	}
	return fmt.Sprint(x)
}

func same(t *testing.T, what, have, want string) {
	t.Helper()
	if have != want {
		t.Errorf("%s:\nhave %s\nwant %s", what, have, want)
	}
}

// must is the result of a call that has to be OK.
func must[T any](t *testing.T) func(x T, e api.Errno) T {
	return func(x T, e api.Errno) T {
		t.Helper()
		if e != api.OK {
			t.Error(fails(e))
		}
		return x
	}
}

// ofBits is a skin of grades 0 and 1.
func ofBits(w, h, bits int) []string {
	return made(w, h, func(x, y int) int { return bits >> (y*w + x) & 1 })
}

// smallSkins are all skins of grades 0 and 1 with up to 3 rows and columns.
func smallSkins() [][]string {
	var l [][]string
	for w := 1; w <= 3; w++ {
		for h := 1; h <= 3; h++ {
			for bits := range 1 << (w * h) {
				l = append(l, ofBits(w, h, bits))
			}
		}
	}
	return l
}

// dice makes the same skins in every run.
func dice() *rand.Rand { return rand.New(rand.NewPCG(3, 14)) }

// randomSkin has sides up to side; some have all grades, some few and mostly leather, some long runs.
func randomSkin(d *rand.Rand, side int) []string {
	w, h := 1+d.IntN(side), 1+d.IntN(side)
	usual, odd := d.IntN(10), 1+d.IntN(12)
	return made(w, h, func(x, y int) int {
		if odd > 8 || d.IntN(odd) == 0 {
			return d.IntN(10)
		}
		return usual
	})
}

func randomSkins(count, side int) [][]string {
	d := dice()
	var l [][]string
	for range count {
		l = append(l, randomSkin(d, side))
	}
	return l
}

// special are skins with much of something: sides, corners, parts, holes, or winding.
func special() [][]string {
	lattice := func(x, y int) int { return 1 - x%2*(y%2) }
	return [][]string{
		plain(1, 1, "0"), plain(1, 1, "9"), plain(48, 48, "0"), plain(48, 48, "9"), plain(48, 1, "5"), plain(1, 48, "5"),
		made(48, 48, func(x, y int) int { return (x + y) % 2 }),
		made(48, 48, func(x, y int) int { return (x + y) % 10 }),
		made(47, 47, lattice), made(48, 48, lattice),
		rings(),
		made(48, 48, func(x, y int) int { return max(y/47, (x+1)%2) }),
		made(48, 48, func(x, y int) int { return min(1, max(0, 1+x/3-y/2)) }),
		spiral(48), spiral(9),
	}
}

// rings are parts within holes.
func rings() []string {
	return made(48, 48, func(x, y int) int { return (min(x, y, 47-x, 47-y) + 1) % 2 })
}

// spiral is leather one cell wide that winds inwards.
func spiral(n int) []string {
	taken := map[[2]int]bool{}
	inside := func(x, y int) bool { return x >= 0 && x < n && y >= 0 && y < n }
	x, y, dx, dy := 0, 0, 1, 0
	taken[[2]int{0, 0}] = true
	for stuck := 0; stuck < 2; {
		if inside(x+dx, y+dy) && !taken[[2]int{x + dx, y + dy}] && !taken[[2]int{x + 2*dx, y + 2*dy}] {
			x, y, stuck = x+dx, y+dy, 0
			taken[[2]int{x, y}] = true
			continue
		}
		dx, dy, stuck = -dy, dx, stuck+1
	}
	return made(n, n, func(x, y int) int {
		if taken[[2]int{x, y}] {
			return 1
		}
		return 0
	})
}

// samples are skins to which every function is applied.
func samples() [][]string {
	return slices.Concat(smallSkins(), randomSkins(150, 9), randomSkins(12, 48), special())
}

// leasts are the least grades at which a skin differs.
func leasts(s []string) []int {
	var l []int
	for g := 1; g <= 9; g++ {
		if g == 1 || countUsable(s, g) != countUsable(s, g-1) {
			l = append(l, g)
		}
	}
	return l
}

// badSkins are slices that are no skins.
func badSkins() [][]string {
	digits := strings.Repeat("1", 48)
	l := [][]string{
		nil, {}, {""}, {"", ""}, {"1", ""}, {"", "1"}, {"1", "11"}, {"11", "1"}, {"11", "11", "1"}, {"1", "1", ""},
		plain(49, 1, "1"), plain(1, 49, "1"), plain(49, 49, "1"), plain(49, 48, "1"), plain(48, 49, "1"), plain(1000, 1, "1"), make([]string, 48),
		append(plain(48, 47, "1"), digits+"1"), append(plain(48, 47, "1"), digits[1:]), append(plain(48, 47, "1"), digits[1:]+"a"),
	}
	for _, bad := range []string{"a", "-", "+", " ", "/", ":", "\x00", "\xff", "\n", "٣", "½"} {
		l = append(l, []string{bad}, []string{"1" + bad}, []string{bad + "1"}, []string{"1" + bad + "1"}, append(plain(len(bad), 3, "1"), bad))
	}
	return l
}

func badRects() []api.Rect {
	var l []api.Rect
	for _, bad := range []int{0, -1, -48, -biggest, -biggest - 1} {
		l = append(l, r(0, 0, bad, 1), r(0, 0, 1, bad), r(0, 0, bad, bad), r(99, 99, bad, 1), r(99, 99, 1, bad), r(biggest, biggest, biggest, bad))
		if bad < 0 {
			l = append(l, r(bad, 0, 1, 1), r(0, bad, 1, 1), r(bad, bad, 1, 1), r(bad, 0, 1-bad, 1), r(0, bad, 99, 1), r(bad, 0, 1, biggest))
		}
	}
	return l
}

// outside are valid rectangles that do not lie within a skin of w by h cells.
func outside(w, h int) []api.Rect {
	l := []api.Rect{r(w, 0, 1, 1), r(0, h, 1, 1), r(0, 0, w+1, 1), r(0, 0, 1, h+1), r(w-1, 0, 2, 1), r(0, h-1, 1, 2), r(1, 1, w, h), r(0, 0, 49, 49), r(49, 49, 1, 1)}
	for _, huge := range []int{biggest, biggest - 1, biggest/2 + 1, biggest/2 + 2} {
		l = append(l, r(huge, 0, 1, 1), r(0, huge, 1, 1), r(0, 0, huge, 1), r(0, 0, 1, huge), r(huge, 0, huge, 1), r(0, huge, 1, huge), r(huge, huge, huge, huge), r(1, 0, huge, 1), r(0, 1, 1, huge))
	}
	return l
}

var badLeasts = []int{0, -1, 10, 11, '1', '9', biggest, -biggest - 1}

// call is a function of the package with its name and with its result as a text.
type call struct {
	name string
	text func(s []string) string
}

// ofSkin are all functions whose first argument is a skin, with other arguments that are valid.
func ofSkin() []call {
	l := []call{
		{"Grades", func(s []string) string { return show(skin.Grades(s)) }},
		{"Worth", func(s []string) string { return show(skin.Worth(s, make([]int, 10))) }},
		{"Turn 0", func(s []string) string { return show(skin.Turn(s, 0)) }},
		{"Turn 1", func(s []string) string { return show(skin.Turn(s, 1)) }},
		{"Turn 2", func(s []string) string { return show(skin.Turn(s, 2)) }},
		{"Mirror", func(s []string) string { return show(skin.Mirror(s)) }},
		{"Crop", func(s []string) string { return show(skin.Crop(s, r(0, 0, 1, 1))) }},
		{"Punch", func(s []string) string { return show(skin.Punch(s, r(0, 0, 1, 1))) }},
		{"Crop outside", func(s []string) string { return show(skin.Crop(s, r(99, 0, 1, 1))) }},
		{"Punch outside", func(s []string) string { return show(skin.Punch(s, r(99, 0, 1, 1))) }},
		{"Trim", func(s []string) string { return show(skin.Trim(s)) }},
		{"Pack", func(s []string) string { return show(skin.Pack(s)) }},
	}
	for _, k := range []int{0, 1, 48} {
		l = append(l,
			call{"Erode", func(s []string) string { return show(skin.Erode(s, k)) }},
			call{"Dilate", func(s []string) string { return show(skin.Dilate(s, k)) }},
			call{"Open", func(s []string) string { return show(skin.Open(s, k)) }},
		)
	}
	for _, f := range ofLeast() {
		for _, g := range []int{1, 9} {
			l = append(l, call{f.name, func(s []string) string { return f.text(s, g) }})
		}
	}
	return l
}

// leastCall is a function of a skin and a least grade.
type leastCall struct {
	name string
	text func(s []string, g int) string
}

func ofLeast() []leastCall {
	return []leastCall{
		{"NewTable", func(s []string, g int) string { return show(skin.NewTable(s, g)) }},
		{"Parts", func(s []string, g int) string { return show(skin.Parts(s, g)) }},
		{"Largest", func(s []string, g int) string { return show(skin.Largest(s, g)) }},
		{"Square", func(s []string, g int) string { return show(skin.Square(s, g)) }},
		{"Maximal", func(s []string, g int) string { return show(skin.Maximal(s, g)) }},
		{"Fewest", func(s []string, g int) string { return show(skin.Fewest(s, g)) }},
		{"Split", func(s []string, g int) string { return show(skin.Split(s, g)) }},
	}
}
