package cut_test

import (
	"fmt"
	"slices"
	"testing"

	"trank/api"
	"trank/cut"
)

// What all functions have in common.

// P5.2 to P5.5: ErrArg before every other error, for every argument.
func TestInvalidBoards(t *testing.T) {
	kinds := append(badKinds(), nil, []cut.Kind{kd(1, 1, 1, 1)}, slices.Repeat([]cut.Kind{turning(16, 16, 9, 1000000)}, 12))
	for i, b := range badBoards() {
		for _, c := range ofBoard() {
			for _, k := range kinds {
				same(t, fmt.Sprint(c.name, i, k), c.text(b, k), fails(api.ErrArg))
			}
		}
	}
}

func TestInvalidKinds(t *testing.T) {
	for i, k := range badKinds() {
		for _, c := range ofBoard() {
			for _, b := range [][]string{rows("1"), rows("00 00"), plain(16, 16, "9"), nil} {
				same(t, fmt.Sprint(c.name, i, b), c.text(b, k), fails(api.ErrArg))
			}
		}
	}
}

// The limits themselves are valid.
func TestValidBoards(t *testing.T) {
	kinds := [][]cut.Kind{nil, slices.Repeat([]cut.Kind{kd(1, 1, 1, 1)}, 12), slices.Repeat([]cut.Kind{turning(16, 16, 9, 1000000)}, 12), {kd(16, 1, 1, 1)}, {kd(1, 16, 1, 1)}, {kd(1, 1, 9, 1)}, {kd(1, 1, 1, 1000000)}}
	for _, b := range [][]string{rows("0"), plain(16, 1, "9"), plain(1, 16, "0"), plain(16, 16, "5")} {
		for _, k := range kinds {
			for _, c := range ofBoard() {
				want := api.OK
				switch c.name {
				case "Strict too much":
					want = api.ErrArg
				case "Read no plan", "Counts no plan", "Rest no plan":
					want = api.ErrForm
				case "Check", "Check no table":
					want = api.ErrSize
				}
				if have := c.text(b, k); want != api.OK && have != fails(want) || want == api.OK && len(have) > 5 && have[:5] == "error" {
					t.Error(c.name, b, k, have)
				}
			}
		}
	}
}

// roomy has room behind the elements: an append would write into it.
func roomy[T any](l []T) []T { return append(make([]T, 0, len(l)+100), l...) }

// Arguments are neither changed nor shared by a result: a result that is written over changes neither them nor the next result.
func TestNothingShared(t *testing.T) {
	for _, s := range slices.Concat(tinySamples(), randomSamples(60, 6, 6), special()) {
		b, k := roomy(s.b), roomy(s.k)
		p := roomy(must[[]cut.Node](t)(cut.Plan(b, k)))
		table := roomy(must[[]int](t)(cut.Prove(b, k)))
		all := func() string { return fmt.Sprint(b[:cap(b)], k[:cap(k)], p[:cap(p)], table[:cap(table)]) }
		before := all()
		writeOver(t, func() ([]cut.Node, api.Errno) { return cut.Plan(b, k) }, cut.Node{Op: 77})
		writeOver(t, func() ([]cut.Placed, api.Errno) { l, _, e := cut.Read(b, k, p); return l, e }, cut.Placed{Kind: 77})
		writeOver(t, func() ([]int, api.Errno) { return cut.Counts(b, k, p) }, 77)
		writeOver(t, func() ([]string, api.Errno) { return cut.Rest(b, k, p) }, "77")
		writeOver(t, func() ([]string, api.Errno) { return cut.Rest(b, k, []cut.Node{{}}) }, "77")
		writeOver(t, func() ([]int, api.Errno) { return cut.Prove(b, k) }, 77)
		cut.Check(b, k, table)
		cut.Read(b, k, append(p[:len(p):len(p)], cut.Node{}))
		for _, c := range ofBoard() {
			first := c.text(b, k)
			same(t, "again "+c.name, c.text(b, k), first)
		}
		same(t, "arguments", all(), before)
	}
}

func TestNothingSharedOfStrips(t *testing.T) {
	d := dice()
	for range 200 {
		n, l := someStrips(d, d.IntN(9))
		strips, worths := roomy(l), roomy(numbers(d, len(l), 9))
		all := func() string { return fmt.Sprint(strips[:cap(strips)], worths[:cap(worths)]) }
		before := all()
		writeOver(t, func() ([]int, api.Errno) { return cut.Bins(n, strips) }, 77)
		writeOver(t, func() ([]int, api.Errno) { return cut.FirstFit(n, strips) }, 77)
		writeOver(t, func() ([]int, api.Errno) { _, l, e := cut.Fill(n, strips, worths); return l, e }, 77)
		same(t, "again", fmt.Sprint(barCalls(n, strips)), fmt.Sprint(barCalls(n, strips)))
		same(t, "arguments", all(), before)
	}
}

func writeOver[T any](t *testing.T, g func() ([]T, api.Errno), x T) {
	t.Helper()
	first, e := g()
	want := show(first, e)
	for i := range first[:cap(first)] {
		first[:cap(first)][i] = x
	}
	same(t, "again", show(g()), want)
}

// A nil slice and an empty one are the same as arguments.
func TestNilAndEmpty(t *testing.T) {
	for _, b := range [][]string{{}, rows("1"), rows("12 34")} {
		for _, c := range ofBoard() {
			same(t, c.name, c.text(b, []cut.Kind{}), c.text(b, nil))
		}
		same(t, "Read", show2(cut.Read(b, nil, []cut.Node{})), show2(cut.Read(b, nil, nil)))
		same(t, "Check", show2(cut.Check(b, nil, []int{})), show2(cut.Check(b, nil, nil)))
	}
	for _, c := range ofBoard() {
		same(t, c.name, c.text([]string{}, nil), c.text(nil, nil))
	}
	for _, n := range []int{0, 1, 10} {
		same(t, "strips", fmt.Sprint(barCalls(n, []int{})), fmt.Sprint(barCalls(n, nil)))
		same(t, "Fill", show2(cut.Fill(n, []int{}, nil)), show2(cut.Fill(n, nil, []int{})))
	}
}

// The samples are what they are taken for.
func TestHelpers(t *testing.T) {
	for _, s := range samples() {
		if s.w() > 16 || s.h() > 16 || len(s.k) > 12 {
			t.Error(s)
		}
	}
	s := deepest()
	best := must[int](t)(cut.Best(s.b, s.k))
	if v := must[int](t)(cut.Strict(s.b, s.k, 24)); v >= best {
		t.Error(v, best)
	}
}
