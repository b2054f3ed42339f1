package cut_test

import (
	"fmt"
	"testing"

	"trank/api"
	"trank/cut"
)

// The numbered examples of the chapter.

func TestExample1(t *testing.T) {
	s := example()
	same(t, "Best", show(cut.Best(s.b, s.k)), ok(10))
	same(t, "Plan", show(cut.Plan(s.b, s.k)), ok([]cut.Node{{Op: 3, Arg: 1}, {Op: 1, Arg: 0}, {Op: 1, Arg: 0}}))
	same(t, "Rects", show(cut.Rects(2, 2)), ok(9))
	same(t, "Number", show(cut.Number(2, 2, r(0, 0, 2, 2))), ok(3))
	for i, a := range []api.Rect{r(0, 0, 1, 1), r(0, 0, 1, 2), r(0, 0, 2, 1), r(0, 0, 2, 2), r(1, 0, 1, 1), r(1, 0, 1, 2), r(0, 1, 1, 1), r(0, 1, 2, 1), r(1, 1, 1, 1)} {
		same(t, fmt.Sprint("Number ", a), show(cut.Number(2, 2, a)), ok(i))
	}
}

func TestExample2(t *testing.T) {
	b := rows("10 11")
	same(t, "Best", show(cut.Best(b, example().k)), ok(7))
	same(t, "Plan", show(cut.Plan(b, example().k)), ok([]cut.Node{{Op: 3, Arg: 1}, {Op: 2, Arg: 1}, {Op: 1, Arg: 1}, {}, {Op: 1, Arg: 0}}))
}

func TestExample3(t *testing.T) {
	b := rows("111")
	k := []cut.Kind{turning(1, 3, 1, 4)}
	same(t, "Best", show(cut.Best(b, k)), ok(4))
	same(t, "Plan", show(cut.Plan(b, k)), ok([]cut.Node{{Op: 1, Arg: 0, Turned: true}}))
	k[0].Turn = false
	same(t, "Best", show(cut.Best(b, k)), ok(0))
	same(t, "Plan", show(cut.Plan(b, k)), ok([]cut.Node{{}}))
}

func TestExample4(t *testing.T) {
	same(t, "Fill", show2(cut.Fill(7, []int{3, 2}, []int{4, 3})), ok2(10, []int{1, 2}))
	same(t, "Fill", show2(cut.Fill(4, []int{2, 2}, []int{1, 1})), ok2(2, []int{2, 0}))
}

func TestExample5(t *testing.T) {
	strips := []int{6, 5, 5, 4}
	same(t, "Fewest", show(cut.Fewest(10, strips)), ok(2))
	same(t, "FirstFit", show(cut.FirstFit(10, strips)), ok([]int{0, 1, 1, 0}))
	same(t, "Floor", show(cut.Floor(10, strips)), ok(2))
}

// The document's own example of this layer.
func TestExampleOfDocument(t *testing.T) {
	same(t, "Best", show(cut.Best(rows("10 11"), []cut.Kind{kd(2, 1, 1, 5), kd(1, 1, 1, 2)})), ok(7))
}
