package pair_test

import (
	"testing"

	"trank/pair"
)

// The numbered examples of the chapter.

func TestExample1(t *testing.T) {
	l, r := shades(0, 5), shades(4, 20)
	same(t, "Cost", show2(pair.Cost(l[0], r[0], byShade)), ok2(4, true))
	same(t, "Cost", show2(pair.Cost(l[1], r[0], byShade)), ok2(1, true))
	same(t, "Cost", show2(pair.Cost(l[0], r[1], byShade)), ok2(0, false))
	same(t, "Cost", show2(pair.Cost(l[1], r[1], byShade)), ok2(0, false))
	same(t, "Most", show(pair.Most(l, r, byShade)), ok(1))
	same(t, "Cheapest", show(pair.Cheapest(l, r, byShade)), ok([]int{-1, 0}))
	same(t, "Weigh", show2(pair.Weigh(l, r, byShade, []int{-1, 0})), ok2(1, 1))
	same(t, "Cover", show2(pair.Cover(l, r, byShade)), ok2([]int{}, []int{0}))
	same(t, "Even", show(pair.Even(l, r, byShade)), ok(1))
}

func TestExample2(t *testing.T) {
	l, r := shades(0, 10), shades(10, 0)
	same(t, "Cheapest", show(pair.Cheapest(l, r, byShade)), ok([]int{1, 0}))
	same(t, "Weigh", show2(pair.Weigh(l, r, byShade, []int{1, 0})), ok2(2, 0))
	same(t, "Stable", show(pair.Stable(l, r, byShade)), ok([]int{1, 0}))
	same(t, "Cheapest", show(pair.Cheapest(shades(5, 5), shades(5, 5), byShade)), ok([]int{0, 1}))
}

func TestExample3(t *testing.T) {
	l, r := shades(0, 8), shades(4, 12)
	same(t, "Cost", show2(pair.Cost(l[0], r[0], byShade)), ok2(4, true))
	same(t, "Cost", show2(pair.Cost(l[0], r[1], byShade)), ok2(0, false))
	same(t, "Cost", show2(pair.Cost(l[1], r[0], byShade)), ok2(4, true))
	same(t, "Cost", show2(pair.Cost(l[1], r[1], byShade)), ok2(4, true))
	same(t, "Cheapest", show(pair.Cheapest(l, r, byShade)), ok([]int{0, 1}))
	same(t, "Weigh", show2(pair.Weigh(l, r, byShade, []int{0, 1})), ok2(2, 8))
	same(t, "Blocking", show(pair.Blocking(l, r, byShade, []int{-1, 0})), ok([][2]int{{0, 0}}))
}

func TestExample4(t *testing.T) {
	h := shades(0, 8, 16)
	same(t, "Pairs", show(pair.Pairs(h, byShade, must[[]int](t)(pair.Heap(h, byShade)))), ok(1))
	same(t, "Barrier", show(pair.Barrier(h, byShade)), ok([]int{1}))
	same(t, "Odd", show(pair.Odd(h, byShade, []int{1})), ok(2))
	same(t, "Odd", show(pair.Odd(h, byShade, nil)), ok(1))
}

// The example of DOC.md for this layer.
func TestExampleOfDocument(t *testing.T) {
	same(t, "Cheapest", show(pair.Cheapest(shades(0, 10), shades(10, 0), byShade)), ok([]int{1, 0}))
}
