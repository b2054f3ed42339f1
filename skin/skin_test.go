package skin_test

import (
	"fmt"
	"slices"
	"strings"
	"testing"

	"trank/api"
	"trank/skin"
)

// P3.1
func TestValid(t *testing.T) {
	for _, s := range slices.Concat(samples(), [][]string{{"0123456789"}, plain(48, 48, "0"), plain(48, 1, "9"), plain(1, 48, "0"), plain(1, 1, "5")}) {
		if !skin.Valid(s) {
			t.Error(s)
		}
	}
	for _, s := range badSkins() {
		if skin.Valid(s) {
			t.Errorf("%q", s)
		}
	}
	for b := range 256 {
		for _, row := range []string{"%s", "1%s", "%s1", "1%s1"} {
			s := []string{fmt.Sprintf(row, string([]byte{byte(b)}))}
			if skin.Valid(s) != ('0' <= b && b <= '9') {
				t.Errorf("%q", s)
			}
		}
	}
}

// P3.1
func TestGrades(t *testing.T) {
	for _, s := range samples() {
		want := make([]int, 10)
		for g := range want {
			want[g] = strings.Count(fmt.Sprint(s), fmt.Sprint(g))
		}
		same(t, fmt.Sprint(s), show(skin.Grades(s)), ok(want))
	}
}

// P3.1
func TestWorth(t *testing.T) {
	price := []int{3, 1, 4, 1, 5, 9, 2, 6, 1000000, 0}
	for _, s := range samples() {
		want := 0
		for y := range s {
			for x := range s[y] {
				want += price[grade(s, x, y)]
			}
		}
		same(t, fmt.Sprint(s), show(skin.Worth(s, price)), ok(want))
	}
	same(t, "most", show(skin.Worth(plain(48, 48, "9"), slices.Repeat([]int{1000000}, 10))), ok(2304000000))
	same(t, "holes", show(skin.Worth(plain(48, 48, "0"), []int{7, 0, 0, 0, 0, 0, 0, 0, 0, 0})), ok(16128))
	s := rows("12 34")
	for _, bad := range [][]int{nil, {}, price[:9], append(slices.Clone(price), 0), make([]int, 1000)} {
		same(t, fmt.Sprint("Worth ", bad), show(skin.Worth(s, bad)), fails(api.ErrArg))
	}
	for i := range price {
		for _, bad := range []int{-1, 1000001, biggest, -biggest - 1} {
			l := slices.Clone(price)
			l[i] = bad
			same(t, fmt.Sprint("Worth ", l), show(skin.Worth(s, l)), fails(api.ErrArg))
		}
	}
}

// P3.2
func TestCount(t *testing.T) {
	for _, s := range slices.Concat(smallSkins(), randomSkins(40, 7)) {
		for _, g := range leasts(s) {
			table := must[*skin.Table](t)(skin.NewTable(s, g))
			for _, a := range allRects(len(s[0]), len(s)) {
				want := countUsable(cropped(s, a), g)
				same(t, fmt.Sprint(s, g, a), show(table.Count(a)), ok(want))
			}
		}
	}
	for _, s := range slices.Concat(randomSkins(12, 48), special()) {
		w, h := len(s[0]), len(s)
		table := must[*skin.Table](t)(skin.NewTable(s, 1))
		same(t, "all", show(table.Count(r(0, 0, w, h))), ok(countUsable(s, 1)))
		for y := range h {
			same(t, "row", show(table.Count(r(0, y, w, 1))), ok(countUsable(s[y:y+1], 1)))
			same(t, "first rows", show(table.Count(r(0, 0, w, y+1))), ok(countUsable(s[:y+1], 1)))
		}
		same(t, "last cell", show(table.Count(r(w-1, h-1, 1, 1))), ok(min(1, grade(s, w-1, h-1))))
	}
}

// P3.2: ErrNil before ErrArg before ErrRange.
func TestCountErrors(t *testing.T) {
	var none *skin.Table
	var unmade skin.Table
	table := must[*skin.Table](t)(skin.NewTable(plain(3, 2, "4"), 4))
	for _, a := range slices.Concat(badRects(), outside(3, 2), []api.Rect{r(0, 0, 1, 1), {}}) {
		same(t, fmt.Sprint("nil ", a), show(none.Count(a)), fails(api.ErrNil))
		same(t, fmt.Sprint("unmade ", a), show(unmade.Count(a)), fails(api.ErrNil))
		same(t, fmt.Sprint("new ", a), show(new(skin.Table).Count(a)), fails(api.ErrNil))
	}
	for _, a := range append(badRects(), api.Rect{}) {
		same(t, fmt.Sprint(a), show(table.Count(a)), fails(api.ErrArg))
	}
	for _, a := range outside(3, 2) {
		same(t, fmt.Sprint(a), show(table.Count(a)), fails(api.ErrRange))
	}
	same(t, "after errors", show(table.Count(r(0, 0, 3, 2))), ok(6))
	if table, e := skin.NewTable(nil, 1); table != nil || e != api.ErrArg {
		t.Error(table, e)
	}
}

// P3.2: tables share nothing.
func TestTables(t *testing.T) {
	a := must[*skin.Table](t)(skin.NewTable(rows("12 34"), 2))
	b := must[*skin.Table](t)(skin.NewTable(rows("12 34"), 4))
	for range 2 {
		same(t, "first", show(a.Count(r(0, 0, 2, 2))), ok(3))
		same(t, "second", show(b.Count(r(0, 0, 2, 2))), ok(1))
		same(t, "cell", show(a.Count(r(0, 0, 1, 1))), ok(0))
	}
}

func cropped(s []string, a api.Rect) []string {
	return made(a.W, a.H, func(x, y int) int { return grade(s, a.X+x, a.Y+y) })
}
