package skin_test

import (
	"fmt"
	"slices"
	"testing"

	"trank/api"
	"trank/skin"
)

// turned is s turned clockwise once.
func turned(s []string) []string {
	return made(len(s), len(s[0]), func(x, y int) int { return grade(s, y, len(s)-1-x) })
}

// P3.3
func TestTurn(t *testing.T) {
	for _, s := range samples() {
		want := [][]string{s, turned(s), turned(turned(s)), turned(turned(turned(s)))}
		for k, l := range want {
			for _, k := range []int{k, k - 4, k + 4, k - 400, k + 400} {
				same(t, fmt.Sprint(s, k), show(skin.Turn(s, k)), ok(l))
			}
		}
	}
	s := rows("012 345")
	for k, want := range map[int]string{
		0: "012 345", 1: "30 41 52", 2: "543 210", 3: "25 14 03", -1: "25 14 03", -2: "543 210", -3: "30 41 52", -4: "012 345",
		biggest: "25 14 03", biggest - 1: "543 210", -biggest - 1: "012 345", -biggest: "30 41 52",
	} {
		same(t, fmt.Sprint("Turn ", k), show(skin.Turn(s, k)), ok(rows(want)))
	}
}

// P3.3
func TestMirror(t *testing.T) {
	for _, s := range samples() {
		want := made(len(s[0]), len(s), func(x, y int) int { return grade(s, len(s[0])-1-x, y) })
		same(t, fmt.Sprint(s), show(skin.Mirror(s)), ok(want))
	}
	same(t, "Mirror", show(skin.Mirror(rows("012 345"))), ok(rows("210 543")))
}

// P3.3
func TestCropAndPunch(t *testing.T) {
	for _, s := range slices.Concat(randomSkins(60, 5), [][]string{plain(1, 1, "9"), plain(1, 1, "0")}) {
		w, h := len(s[0]), len(s)
		for _, a := range allRects(w, h) {
			same(t, fmt.Sprint("Crop ", s, a), show(skin.Crop(s, a)), ok(cropped(s, a)))
			punched := made(w, h, func(x, y int) int {
				if within(r(x, y, 1, 1), a) {
					return 0
				}
				return grade(s, x, y)
			})
			same(t, fmt.Sprint("Punch ", s, a), show(skin.Punch(s, a)), ok(punched))
		}
	}
	for _, s := range special() {
		all := r(0, 0, len(s[0]), len(s))
		same(t, "Crop all", show(skin.Crop(s, all)), ok(s))
		same(t, "Punch all", show(skin.Punch(s, all)), ok(plain(all.W, all.H, "0")))
	}
	big := made(48, 48, func(x, y int) int { return (x*7 + y) % 10 })
	same(t, "Crop last", show(skin.Crop(big, r(46, 47, 2, 1))), ok([]string{big[47][46:]}))
	same(t, "Punch last", show(skin.Punch(big, r(46, 47, 2, 1))), ok(append(slices.Clone(big[:47]), big[47][:46]+"00")))
}

// P3.3
func TestTrim(t *testing.T) {
	for _, s := range samples() {
		want := fails(api.ErrNone)
		if countUsable(s, 1) > 0 {
			want = ok(leastBox(s))
		}
		same(t, fmt.Sprint(s), show(skin.Trim(s)), want)
	}
	for s, want := range map[string]api.Rect{
		"9": r(0, 0, 1, 1), "0001": r(3, 0, 1, 1), "1000": r(0, 0, 1, 1), "000 010 000": r(1, 1, 1, 1), "100 000 001": r(0, 0, 3, 3),
		"0000 0020 0100 0000": r(1, 1, 2, 2), "000 200 010": r(0, 1, 2, 2),
	} {
		same(t, s, show(skin.Trim(rows(s))), ok(want))
	}
	for _, none := range [][]string{plain(1, 1, "0"), plain(48, 48, "0"), plain(5, 1, "0")} {
		same(t, "no leather", show(skin.Trim(none)), fails(api.ErrNone))
	}
}

// leastBox is the rectangle with the fewest cells outside of which there is no leather.
func leastBox(s []string) api.Rect {
	box := r(0, 0, len(s[0]), len(s))
	rest := func(a api.Rect) int { return countUsable(cropped(s, a), 1) }
	all := rest(box)
	for changed := true; changed; {
		changed = false
		for _, a := range []api.Rect{r(box.X+1, box.Y, box.W-1, box.H), r(box.X, box.Y+1, box.W, box.H-1), r(box.X, box.Y, box.W-1, box.H), r(box.X, box.Y, box.W, box.H-1)} {
			if !changed && a.W > 0 && a.H > 0 && rest(a) == all {
				box, changed = a, true
			}
		}
	}
	return box
}

// P3.9
func TestTurningAndMirroring(t *testing.T) {
	for _, s := range samples() {
		back := s
		for range 4 {
			back = must[[]string](t)(skin.Turn(back, 1))
		}
		same(t, "four turns", fmt.Sprint(back), fmt.Sprint(s))
		mirrored := must[[]string](t)(skin.Mirror(s))
		same(t, "two mirrorings", show(skin.Mirror(mirrored)), ok(s))
		for _, g := range leasts(s) {
			want := measures(s, g)
			for k := range 4 {
				same(t, fmt.Sprint(s, g, k), measures(must[[]string](t)(skin.Turn(s, k)), g), want)
				same(t, fmt.Sprint(s, g, k), measures(must[[]string](t)(skin.Turn(mirrored, k)), g), want)
			}
		}
	}
}

// measures is what turning and mirroring do not change.
func measures(s []string, g int) string {
	parts, e := skin.Parts(s, g)
	largest, e2 := skin.Largest(s, g)
	return fmt.Sprint(show(skin.Grades(s)), len(parts), e, largest.W*largest.H, e2, show(skin.Fewest(s, g)))
}
