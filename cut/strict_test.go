package cut_test

import (
	"fmt"
	"testing"

	"trank/api"
	"trank/cut"
)

func stricts(t *testing.T, s sample, most int) []int {
	t.Helper()
	var l []int
	for turns := range most + 1 {
		l = append(l, must[int](t)(cut.Strict(s.b, s.k, turns)))
	}
	return l
}

// P5.5: of all plans, where they can be listed.
func TestStrictOfAllPlans(t *testing.T) {
	for _, s := range tinySamples() {
		want := make([]int, 5)
		for _, p := range s.allPlans() {
			least, _ := changes(p.nodes, 0)
			for turns := least; turns < len(want); turns++ {
				want[turns] = max(want[turns], p.worth)
			}
		}
		same(t, s.String(), fmt.Sprint(stricts(t, s, 4)), fmt.Sprint(want))
	}
}

// P5.5
func TestStrict(t *testing.T) {
	differ := 0
	for _, s := range append(randomSamples(150, 7, 6), staircase(5), staircase(8)) {
		want := s.stricts(8)
		same(t, s.String(), fmt.Sprint(stricts(t, s, 8)), fmt.Sprint(want))
		for i := range 8 {
			differ += min(1, want[i+1]-want[i])
		}
	}
	if differ < 50 {
		t.Error(differ)
	}
	for _, s := range randomSamples(6, 16, 12) {
		same(t, s.String(), fmt.Sprint(stricts(t, s, 2)), fmt.Sprint(s.stricts(2)))
	}
	s := deepest()
	same(t, s.String(), fmt.Sprint(stricts(t, s, 32)), fmt.Sprint(s.stricts(32)))
}

// P5.5: all cuts of a way in one direction.
func TestStrictWithoutTurns(t *testing.T) {
	k := []cut.Kind{kd(1, 1, 1, 1), kd(3, 1, 1, 5), kd(1, 3, 1, 6)}
	for _, c := range []struct {
		b     string
		turns int
		want  int
	}{
		{"111 111 111", 0, 18}, {"111 111 111", 1, 18}, {"110 111 111", 0, 12}, {"110 111 111", 1, 14}, {"110 111 110", 0, 12}, {"110 111 110", 1, 13}, {"111", 0, 5}, {"1 1 1", 0, 6}, {"101", 0, 2}, {"1", 0, 1}, {"11 11", 0, 0}, {"11 11", 1, 4}, {"0", 32, 0},
	} {
		same(t, fmt.Sprint(c), show(cut.Strict(rows(c.b), k, c.turns)), ok(c.want))
	}
}

// P5.5, P5.12
func TestStrictAndBest(t *testing.T) {
	for _, s := range samples() {
		best := must[int](t)(cut.Best(s.b, s.k))
		same(t, "32 turns "+s.String(), show(cut.Strict(s.b, s.k, 32)), ok(best))
		before := 0
		for turns := range 6 {
			v := must[int](t)(cut.Strict(s.b, s.k, turns))
			if v < before || v > best {
				t.Error(s, turns, v, before, best)
			}
			before = v
		}
	}
}

// P5.5: ErrArg unless turns is from 0 to 32.
func TestInvalidTurns(t *testing.T) {
	for _, s := range samples() {
		for _, bad := range []int{-1, 33, 34, biggest, -biggest - 1} {
			same(t, fmt.Sprint(s, bad), show(cut.Strict(s.b, s.k, bad)), fails(api.ErrArg))
		}
	}
	s := example()
	for turns := range 33 {
		same(t, fmt.Sprint(turns), show(cut.Strict(s.b, s.k, turns)), ok(10))
	}
}
