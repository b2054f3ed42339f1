package skin_test

import (
	"fmt"
	"slices"
	"testing"

	"trank/api"
	"trank/skin"
)

// What all functions have in common.

// P3.1 to P3.8: ErrArg before every other error, for every argument.
func TestInvalidSkins(t *testing.T) {
	for i, bad := range badSkins() {
		for _, c := range ofSkin() {
			same(t, fmt.Sprint(c.name, " ", i), c.text(bad), fails(api.ErrArg))
		}
	}
}

// P3.2, P3.6, P3.7, P3.8: ErrArg before ErrNone.
func TestInvalidLeasts(t *testing.T) {
	skins := [][]string{plain(1, 1, "0"), plain(1, 1, "9"), plain(48, 48, "9"), nil}
	for _, c := range ofLeast() {
		for _, g := range badLeasts {
			for _, s := range skins {
				same(t, fmt.Sprint(c.name, g, s), c.text(s, g), fails(api.ErrArg))
			}
		}
		for g := 1; g <= 9; g++ {
			if have := c.text(plain(48, 48, "9"), g); have == fails(api.ErrArg) {
				t.Error(c.name, g, have)
			}
		}
	}
}

// P3.3: ErrArg before ErrRange.
func TestInvalidRects(t *testing.T) {
	s := plain(3, 2, "4")
	for _, a := range badRects() {
		for i, l := range [][]string{s, nil, plain(49, 1, "1")} {
			same(t, fmt.Sprint("Crop ", i, a), show(skin.Crop(l, a)), fails(api.ErrArg))
			same(t, fmt.Sprint("Punch ", i, a), show(skin.Punch(l, a)), fails(api.ErrArg))
		}
	}
	for _, a := range outside(3, 2) {
		same(t, fmt.Sprint("Crop ", a), show(skin.Crop(s, a)), fails(api.ErrRange))
		same(t, fmt.Sprint("Punch ", a), show(skin.Punch(s, a)), fails(api.ErrRange))
		same(t, fmt.Sprint("Crop of no skin ", a), show(skin.Crop(nil, a)), fails(api.ErrArg))
		same(t, fmt.Sprint("Punch of no skin ", a), show(skin.Punch(nil, a)), fails(api.ErrArg))
	}
}

// Arguments are neither changed nor shared by a result: a result that is written over changes neither them nor the next result.
func TestNothingShared(t *testing.T) {
	strings := []func(s []string) ([]string, api.Errno){skin.Mirror}
	for k := range 4 {
		strings = append(strings, func(s []string) ([]string, api.Errno) { return skin.Turn(s, k) })
	}
	for _, k := range []int{0, 1} {
		strings = append(strings,
			func(s []string) ([]string, api.Errno) { return skin.Erode(s, k) },
			func(s []string) ([]string, api.Errno) { return skin.Dilate(s, k) },
			func(s []string) ([]string, api.Errno) { return skin.Open(s, k) },
			func(s []string) ([]string, api.Errno) { return skin.Crop(s, r(0, 0, len(s[0]), len(s))) },
			func(s []string) ([]string, api.Errno) { return skin.Punch(s, r(0, 0, 1, 1)) },
		)
	}
	strings = append(strings, func(s []string) ([]string, api.Errno) {
		p, _ := skin.Pack(s)
		return skin.Unpack(p)
	})
	for _, x := range slices.Concat(randomSkins(60, 9), special()) {
		// With room behind them, an append would write into them.
		s := append(make([]string, 0, 100), x...)
		before := fmt.Sprint(s[:100])
		for i, f := range strings {
			writeOver(t, fmt.Sprint(i, s), s, f, "7")
		}
		writeOver(t, fmt.Sprint("Grades ", s), s, skin.Grades, 77)
		writeOver(t, fmt.Sprint("Parts ", s), s, least(skin.Parts), skin.Part{Cells: 77})
		writeOver(t, fmt.Sprint("Maximal ", s), s, least(skin.Maximal), r(7, 7, 7, 7))
		writeOver(t, fmt.Sprint("Split ", s), s, least(skin.Split), r(7, 7, 7, 7))
		for _, c := range ofSkin() {
			c.text(s)
		}
		same(t, "arguments", fmt.Sprint(s[:100]), before)
	}
}

func least[T any](f func(s []string, g int) (T, api.Errno)) func(s []string) (T, api.Errno) {
	return func(s []string) (T, api.Errno) { return f(s, 1) }
}

func writeOver[T any](t *testing.T, what string, s []string, f func(s []string) ([]T, api.Errno), x T) {
	t.Helper()
	before := fmt.Sprint(s)
	first, e := f(s)
	want := show(first, e)
	for i := range first {
		first[i] = x
	}
	same(t, "arguments of "+what, fmt.Sprint(s), before)
	same(t, "again "+what, show(f(s)), want)
}

// A table does not change with the slice of which it was made.
func TestTableKeepsNothing(t *testing.T) {
	s := rows("110 111 011")
	table := must[*skin.Table](t)(skin.NewTable(s, 1))
	clear(s)
	same(t, "Count", show(table.Count(r(0, 0, 3, 3))), ok(7))
}

func TestHelpers(t *testing.T) {
	if l := smallSkins(); len(l) != 2+4+8+4+16+64+8+64+512 {
		t.Error(len(l))
	}
	for _, s := range samples() {
		if len(s) < 1 || len(s) > 48 || len(s[0]) < 1 || len(s[0]) > 48 || len(leasts(s)) < 1 {
			t.Error(s)
		}
	}
	same(t, "spiral", fmt.Sprint(spiral(5)), fmt.Sprint(rows("11111 00001 11101 10001 11111")))
}
