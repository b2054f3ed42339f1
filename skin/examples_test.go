package skin_test

import (
	"testing"

	"trank/api"
	"trank/skin"
)

// The numbered examples of the chapter.

func TestExample1(t *testing.T) {
	s := rows("110 111 011")
	same(t, "Grades", show(skin.Grades(s)), ok([]int{2, 7, 0, 0, 0, 0, 0, 0, 0, 0}))
	same(t, "Parts", show(skin.Parts(s, 1)), ok([]skin.Part{{Cells: 7, Edge: 12, Holes: 0, Box: r(0, 0, 3, 3)}}))
	same(t, "Largest", show(skin.Largest(s, 1)), ok(r(0, 0, 2, 2)))
	same(t, "Maximal", show(skin.Maximal(s, 1)), ok([]api.Rect{r(0, 0, 2, 2), r(1, 0, 1, 3), r(0, 1, 3, 1), r(1, 1, 2, 2)}))
	same(t, "Fewest", show(skin.Fewest(s, 1)), ok(3))
}

func TestExample2(t *testing.T) {
	s := rows("12 34")
	same(t, "Turn", show(skin.Turn(s, 1)), ok(rows("31 42")))
	same(t, "Mirror", show(skin.Mirror(s)), ok(rows("21 43")))
}

func TestExample3(t *testing.T) {
	same(t, "Pack", show(skin.Pack(rows("0011 5555"))), ok("2a2b/4f"))
	same(t, "Pack", show(skin.Pack(rows("0"))), ok("a"))
	for _, p := range []string{"1a", "a/2a", "ab/", "2a2a", "k"} {
		same(t, "Unpack "+p, show(skin.Unpack(p)), fails(api.ErrForm))
	}
}

func TestExample4(t *testing.T) {
	s := rows("111 101 111")
	same(t, "Parts", show(skin.Parts(s, 1)), ok([]skin.Part{{Cells: 8, Edge: 16, Holes: 1, Box: r(0, 0, 3, 3)}}))
	same(t, "Fewest", show(skin.Fewest(s, 1)), ok(4))
	s = rows("011 101 111")
	same(t, "Parts", show(skin.Parts(s, 1)), ok([]skin.Part{{Cells: 7, Edge: 16, Holes: 0, Box: r(0, 0, 3, 3)}}))
	same(t, "Fewest", show(skin.Fewest(s, 1)), ok(4))
}

func TestExample5(t *testing.T) {
	s := rows("111 111 111")
	same(t, "Erode", show(skin.Erode(s, 1)), ok(rows("000 010 000")))
	same(t, "Open", show(skin.Open(s, 1)), ok(s))
}
