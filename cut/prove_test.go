package cut_test

import (
	"fmt"
	"slices"
	"testing"

	"trank/api"
	"trank/cut"
)

// checkTable compares Check with the terms, for any table of the right length.
func checkTable(t *testing.T, s sample, table []int) bool {
	t.Helper()
	if !s.isBound(table) {
		same(t, fmt.Sprint("Check ", s, table), show2(cut.Check(s.b, s.k, table)), ok2(0, false))
		return false
	}
	whole := must[int](t)(cut.Number(s.w(), s.h(), s.whole()))
	same(t, fmt.Sprint("Check ", s, table), show2(cut.Check(s.b, s.k, table)), ok2(table[whole], true))
	return true
}

// P5.4, P5.10
func TestProve(t *testing.T) {
	for _, s := range samples() {
		best := must[int](t)(cut.Best(s.b, s.k))
		table := must[[]int](t)(cut.Prove(s.b, s.k))
		same(t, "Check of Prove "+s.String(), show2(cut.Check(s.b, s.k, table)), ok2(best, true))
		if n, _ := cut.Rects(s.w(), s.h()); len(table) != n || !s.isBound(table) {
			t.Error(s, table)
		}
	}
}

// P5.4: each number of the least bound by itself, one less and one more.
func TestCheckOfChangedTables(t *testing.T) {
	bound, not := 0, 0
	for _, s := range slices.Concat(tinySamples(), randomSamples(60, 4, 4)) {
		least := s.leastBound()
		checkTable(t, s, least)
		for i := range least {
			for _, by := range []int{-1, 1, 7, biggest - least[i], -biggest - 1} {
				table := slices.Clone(least)
				table[i] += by
				isBound := checkTable(t, s, table)
				if by < 0 && isBound {
					t.Error(s, table)
				}
				if isBound {
					bound++
				} else {
					not++
				}
			}
		}
	}
	if bound < 100 || not < 100 {
		t.Error(bound, not)
	}
}

// anyBound is a bound that is far from the least one.
func anyBound(dice func(n int) int, s sample) []int {
	table := s.leastBound()
	number := map[api.Rect]int{}
	l := allRects(s.w(), s.h())
	for i, a := range l {
		number[a] = i
		if dice(5) == 0 {
			table[i] += dice(30)
		}
	}
	slices.SortFunc(l, func(a, b api.Rect) int { return a.W + a.H - b.W - b.H })
	for _, a := range l {
		for _, c := range cuttings(a) {
			table[number[a]] = max(table[number[a]], table[number[c.one]]+table[number[c.other]])
		}
	}
	return table
}

// P5.4, P5.10: any bound is at least the worth of each plan; one less anywhere, and it may be none.
func TestCheckOfAnyBounds(t *testing.T) {
	d := dice()
	not := 0
	for _, s := range slices.Concat(tinySamples(), randomSamples(150, 6, 5)) {
		table := anyBound(d.IntN, s)
		v, isBound, e := cut.Check(s.b, s.k, table)
		if best := s.bests()[s.whole()]; !isBound || v < best || e != api.OK {
			t.Error(s, table, v, isBound, e)
		}
		for range 20 {
			i := d.IntN(len(table))
			table[i]--
			if !checkTable(t, s, table) {
				not++
			}
			table[i]++
		}
	}
	if not < 500 {
		t.Error(not)
	}
}

// P5.4: the exact sum, however great the numbers are.
func TestCheckOfGreatNumbers(t *testing.T) {
	two := sample{rows("11"), []cut.Kind{kd(2, 1, 1, 3)}}
	tall := sample{rows("1 1"), []cut.Kind{kd(1, 2, 1, 3)}}
	half := biggest / 2
	for _, c := range []struct {
		left, whole, right int
		want               bool
	}{
		{0, 3, 0, true}, {0, 2, 0, false}, {0, biggest, biggest, true}, {biggest, biggest, 0, true}, {biggest, biggest, 1, false}, {1, biggest, biggest, false},
		{biggest, biggest, biggest, false}, {biggest, 3, biggest, false}, {biggest, 3, 1, false}, {half, biggest, half + 1, true}, {half + 1, biggest, half + 1, false}, {half, biggest - 1, half + 1, false},
		{-1, 3, 0, false}, {0, 3, -1, false}, {-1, 3, 1, false}, {0, -1, 0, false}, {0, -biggest - 1, 0, false}, {-biggest - 1, 3, 0, false}, {0, 3, -biggest - 1, false},
		{-biggest - 1, biggest, -biggest - 1, false}, {biggest, biggest, -biggest - 1, false}, {-biggest - 1, biggest, biggest, false}, {biggest, -2, biggest, false},
	} {
		if have := checkTable(t, two, []int{c.left, c.whole, c.right}); have != c.want {
			t.Error(c, have)
		}
		if have := checkTable(t, tall, []int{c.left, c.whole, c.right}); have != c.want {
			t.Error(c, have)
		}
	}
	one := sample{rows("0"), nil}
	for _, v := range []int{0, 1, biggest, -1, -biggest - 1} {
		if have := checkTable(t, one, []int{v}); have != (v >= 0) {
			t.Error(v, have)
		}
	}
	d := dice()
	great := []int{0, 1, 2, half, half + 1, biggest, biggest - 1, biggest - 2, -1, -biggest - 1, biggest / 4}
	bound := 0
	for range 30000 {
		s := sample{plain(1+d.IntN(2), 1+d.IntN(2), "1"), []cut.Kind{turning(1, 2, 1, 1)}}
		var table []int
		for range len(allRects(s.w(), s.h())) {
			table = append(table, great[d.IntN(len(great))])
		}
		if checkTable(t, s, table) {
			bound++
		}
	}
	if bound < 500 {
		t.Error(bound)
	}
}

// P5.4: each of the bound's three conditions by itself.
func TestConditionsOfBounds(t *testing.T) {
	// The rectangles (0,0,1,1), (0,0,2,1), (1,0,1,1).
	s := sample{rows("12"), []cut.Kind{kd(1, 1, 2, 4), kd(2, 1, 2, 9), turning(1, 2, 1, 6)}}
	for _, c := range []struct {
		table string
		v     int
		want  bool
	}{
		{"[0 6 4]", 6, true}, {"[0 5 4]", 0, false}, {"[0 6 3]", 0, false}, {"[-1 6 4]", 0, false}, {"[2 6 4]", 6, true}, {"[3 6 4]", 0, false}, {"[3 7 4]", 7, true}, {"[0 6 7]", 0, false}, {"[0 100 100]", 100, true},
	} {
		var table []int
		for _, x := range rows(c.table[1 : len(c.table)-1]) {
			v := 0
			fmt.Sscan(x, &v)
			table = append(table, v)
		}
		same(t, c.table, show2(cut.Check(s.b, s.k, table)), ok2(c.v, c.want))
	}
}

// P5.4: ErrSize.
func TestCheckOfOtherLengths(t *testing.T) {
	for _, s := range samples() {
		n := must[int](t)(cut.Rects(s.w(), s.h()))
		for _, l := range []int{0, n - 1, n + 1, 2 * n} {
			same(t, fmt.Sprint("Check ", s, l), show2(cut.Check(s.b, s.k, make([]int, l))), fails(api.ErrSize))
		}
		same(t, "Check "+s.String(), show2(cut.Check(s.b, s.k, nil)), fails(api.ErrSize))
		same(t, "Check "+s.String(), show2(cut.Check(s.b, s.k, slices.Repeat([]int{-1}, n+1))), fails(api.ErrSize))
	}
}
