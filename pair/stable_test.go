package pair_test

import (
	"fmt"
	"slices"
	"testing"

	"trank/api"
	"trank/pair"
)

// P6.7, P6.13: stable pairings.

// The stable pairing of which the left gloves have the best partners, of a list of all of them.
func TestStableByLists(t *testing.T) {
	for _, s := range tinySamples() {
		stable := slices.DeleteFunc(s.allPairings(), func(m []int) bool { return len(s.blocking(m)) > 0 })
		best := stable[0]
		for i := range best {
			for _, m := range stable {
				if m[i] != -1 && s.leftPrefers(i, m[i], best[i]) {
					best = m
				}
			}
		}
		same(t, fmt.Sprint(s), show(pair.Stable(s.l, s.r, s.u)), ok(best))
		// Stable relies on this, which the chapter does not say.
		if len(stable) != 1 {
			t.Error(s, stable)
		}
	}
}

func TestStable(t *testing.T) {
	for _, s := range samples() {
		m := must[[]int](t)(pair.Stable(s.l, s.r, s.u))
		same(t, fmt.Sprint("by rounds ", s), fmt.Sprint(m), fmt.Sprint(s.proposals()))
		same(t, fmt.Sprint("Blocking ", s, m), show(pair.Blocking(s.l, s.r, s.u, m)), ok([][2]int{}))
		if !s.isPairing(m) || len(s.blocking(m)) > 0 || 2*size(m) < s.most() {
			t.Error(s, m)
		}
	}
	for _, x := range []struct {
		l, r []pair.Glove
		want []int
	}{
		{shades(0, 8), shades(4, 12), []int{0, 1}},
		{shades(8, 0), shades(4, 12), []int{0, -1}},
		{shades(8, 0), shades(12, 4), []int{0, 1}},
		{shades(1, 5, 9), shades(5, 5), []int{1, 0, -1}},
		{shades(0, 10), shades(9, 19), []int{-1, 0}},
		{nil, shades(1), []int{}}, {shades(1, 2), nil, []int{-1, -1}},
	} {
		same(t, fmt.Sprint(x), show(pair.Stable(x.l, x.r, byShade)), ok(x.want))
	}
}

// Blocking of all pairings, which come in any order, and of those of larger sides.
func TestBlocking(t *testing.T) {
	blocking := 0
	for _, s := range tinySamples()[:400] {
		for _, m := range s.allPairings() {
			l := s.blocking(m)
			same(t, fmt.Sprint(s, m), show(pair.Blocking(s.l, s.r, s.u, m)), ok(l))
			blocking += min(1, len(l))
		}
	}
	if blocking < 2000 {
		t.Error(blocking)
	}
	for _, s := range slices.Concat(randomSamples(100, 12), fullSamples(20), special()) {
		none := slices.Repeat([]int{-1}, len(s.l))
		for _, m := range [][]int{none, must[[]int](t)(pair.Cheapest(s.l, s.r, s.u))} {
			same(t, fmt.Sprint(s, m), show(pair.Blocking(s.l, s.r, s.u, m)), ok(s.blocking(m)))
		}
	}
}

func TestBlockingOfInvalid(t *testing.T) {
	l, r := shades(0, 8), shades(4, 12)
	for _, m := range [][]int{nil, {}, {0}, {0, 1, -1}, {-9}, {0, 0, 0}} {
		same(t, fmt.Sprint(m), show(pair.Blocking(l, r, byShade, m)), fails(api.ErrSize))
	}
	for _, m := range [][]int{{0, 0}, {1, 0}, {-2, 0}, {0, 2}, {0, biggest}, {-biggest - 1, 1}} {
		same(t, fmt.Sprint(m), show(pair.Blocking(l, r, byShade, m)), fails(api.ErrForm))
	}
}
