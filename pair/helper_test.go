package pair_test

import (
	"fmt"
	"math"
	"math/rand/v2"
	"slices"
	"testing"

	"trank/api"
	"trank/pair"
)

const (
	biggest = int(^uint(0) >> 1)
	full    = 1000000000
)

func g(shade, grain, thick, stretch int) pair.Glove {
	return pair.Glove{Shade: shade, Grain: grain, Thick: thick, Stretch: stretch}
}

// all4 is the glove with four times the same number.
func all4(x int) pair.Glove { return g(x, x, x, x) }

func rule(weight, limit pair.Glove) pair.Rule { return pair.Rule{Weight: weight, Limit: limit} }

// shades are gloves with a shade alone, and byShade the rule of the chapter's examples for them.
func shades(l ...int) []pair.Glove {
	var out []pair.Glove
	for _, x := range l {
		out = append(out, g(x, 0, 0, 0))
	}
	return out
}

var byShade = rule(g(1, 0, 0, 0), g(10, 0, 0, 0))

func many(n int, x pair.Glove) []pair.Glove { return slices.Repeat([]pair.Glove{x}, n) }

// fails is what show returns of an error.
func fails(e api.Errno) string { return fmt.Sprint("error ", int(e)) }

func ok[T any](x T) string { return show(x, api.OK) }

// show is the text of a result; it also tells of a result beside an error.
func show[T any](x T, e api.Errno) string {
	if e != api.OK && fmt.Sprint(x) == fmt.Sprint(*new(T)) {
		return fails(e)
	}
	if e != api.OK {
		return fmt.Sprint(fails(e), " beside ", x)
	}
	return fmt.Sprint(x)
}

// show2 is show of two results.
func show2[A, B any](x A, y B, e api.Errno) string {
	type both struct {
		X A
		Y B
	}
	return show(both{x, y}, e)
}

func ok2[A, B any](x A, y B) string { return show2(x, y, api.OK) }

func same(t *testing.T, what, have, want string) {
	t.Helper()
	if have != want {
		t.Errorf("%s:\nhave %s\nwant %s", what, have, want)
	}
}

// must is the result of a call that has to be OK.
func must[T any](t *testing.T) func(x T, e api.Errno) T {
	return func(x T, e api.Errno) T {
		t.Helper()
		if e != api.OK {
			t.Error(fails(e))
		}
		return x
	}
}

// must2 is must of two results.
func must2[A, B any](t *testing.T) func(x A, y B, e api.Errno) (A, B) {
	return func(x A, y B, e api.Errno) (A, B) {
		t.Helper()
		if e != api.OK {
			t.Error(fails(e))
		}
		return x, y
	}
}

// dice makes the same samples in every run.
func dice() *rand.Rand { return rand.New(rand.NewPCG(6, 32)) }

// sample is two sides with a rule.
type sample struct {
	l, r []pair.Glove
	u    pair.Rule
}

func (s sample) String() string { return fmt.Sprint(s.l, s.r, s.u) }

func (s sample) exchanged() sample { return sample{s.r, s.l, s.u} }

// shape says how large the numbers of random gloves and of the weights of random rules are.
type shape struct{ measure, weight int }

// shapes go from many equal gloves and costs to few.
func shapes() []shape {
	return []shape{{0, 1}, {1, 1}, {2, 1}, {3, 2}, {3, 0}, {5, 3}, {9, 3}, {30, 5}, {100, 10}, {1000, 1}, {1000, 3}, {1000, 1000}}
}

func randomGlove(d *rand.Rand, most int) pair.Glove {
	return g(d.IntN(most+1), d.IntN(most+1), d.IntN(most+1), d.IntN(most+1))
}

func parts(x *pair.Glove) []*int { return []*int{&x.Shade, &x.Grain, &x.Thick, &x.Stretch} }

// randomGloves have some measures that are the same for all of them.
func randomGloves(d *rand.Rand, count, most int, usual pair.Glove, differs [4]bool) []pair.Glove {
	var l []pair.Glove
	for range count {
		x := randomGlove(d, most)
		for i, p := range parts(&x) {
			if !differs[i] {
				*p = *parts(&usual)[i]
			}
		}
		if len(l) > 0 && d.IntN(9) == 0 {
			x = l[d.IntN(len(l))]
		}
		l = append(l, x)
	}
	return l
}

// randomSample allows a glove from none to all gloves of the other side.
func randomSample(d *rand.Rand, left, right int) sample {
	if d.IntN(2) == 0 {
		return sparseSample(d, left, right)
	}
	a := shapes()[d.IntN(len(shapes()))]
	usual := randomGlove(d, a.measure)
	var differs [4]bool
	for i := range differs {
		differs[i] = d.IntN(2) == 0
	}
	var limit pair.Glove
	share := []float64{0, 0.1, 0.2, 0.3, 0.4, 0.5, 0.7, 1}[d.IntN(8)]
	for _, p := range parts(&limit) {
		*p = int(math.Round(float64(a.measure) * math.Pow(share, 0.6+d.Float64()/2)))
	}
	return sample{randomGloves(d, left, a.measure, usual, differs), randomGloves(d, right, a.measure, usual, differs), rule(randomGlove(d, a.weight), limit)}
}

func randomSamples(count, side int) []sample {
	d := dice()
	var l []sample
	for range count {
		l = append(l, randomSample(d, max(d.IntN(side+1), d.IntN(side+1)), max(d.IntN(side+1), d.IntN(side+1))))
	}
	return l
}

// fullSamples have 32 gloves on each side, or on one of them.
func fullSamples(count int) []sample {
	d := dice()
	var l []sample
	for i := range count {
		s := randomSample(d, 32, 32)
		switch i % 4 {
		case 0:
			s.l = s.l[:d.IntN(33)]
		case 1:
			s.r = s.r[:d.IntN(33)]
		}
		l = append(l, s)
	}
	return l
}

// examples are the sides of the chapter's examples.
func examples() []sample {
	return []sample{
		{shades(0, 5), shades(4, 20), byShade}, {shades(0, 10), shades(10, 0), byShade}, {shades(5, 5), shades(5, 5), byShade}, {shades(0, 8), shades(4, 12), byShade},
	}
}

// special are sides with something of their own.
func special() []sample {
	free := rule(all4(0), all4(1000))
	dear := rule(all4(1000), all4(1000))
	far := make([]int, 32)
	for i := range far {
		far[i] = i * 31
	}
	l := []sample{
		{nil, nil, byShade}, {shades(1), nil, byShade}, {nil, shades(1), byShade}, {many(32, all4(0)), nil, free}, {nil, many(32, all4(0)), free},
		{many(32, all4(7)), many(32, all4(7)), free}, {many(32, all4(0)), many(32, all4(1000)), dear}, {many(32, all4(0)), many(32, all4(1000)), rule(all4(1000), all4(999))},
		{many(32, all4(0)), many(31, all4(1000)), dear}, {many(31, all4(1000)), many(32, all4(0)), dear},
		{shades(far...), shades(far...), rule(g(1000, 0, 0, 0), g(31, 0, 0, 0))}, {shades(far...), shades(far[1:]...), rule(g(1, 0, 0, 0), g(31, 0, 0, 0))}, {shades(far[1:]...), shades(far...), rule(g(1, 0, 0, 0), g(62, 0, 0, 0))},
		// Larger at a high cost is better than cheap.
		{[]pair.Glove{all4(0), all4(500)}, []pair.Glove{all4(500), all4(1000)}, rule(all4(1000), all4(500))},
		{[]pair.Glove{all4(0), all4(10)}, []pair.Glove{all4(10), all4(1000)}, dear},
	}
	return append(l, examples()...)
}

// tinySamples are so small that all their pairings can be listed.
func tinySamples() []sample {
	l := slices.Concat(examples(), randomSamples(900, 4))
	d := dice()
	for range 120 {
		l = append(l, randomSample(d, 5, 5))
	}
	return l
}

// samples are sides to which every function is applied.
func samples() []sample {
	return slices.Concat(tinySamples(), randomSamples(400, 12), fullSamples(100), special())
}

// pile is a heap with a rule.
type pile struct {
	h []pair.Glove
	u pair.Rule
}

func (p pile) String() string { return fmt.Sprint(p.h, p.u) }

// spread returns gloves in so wide a range that each of them is allowed with a few others, and the limit.
func spread(d *rand.Rand, count int, usual float64) ([]pair.Glove, pair.Glove) {
	limit := 1 + d.IntN(2)
	dimensions := 1 + d.IntN(4)
	side := float64(2*limit+1) * math.Pow(float64(count+1)/usual, 1/float64(dimensions))
	var l []pair.Glove
	for range count {
		var x pair.Glove
		for _, p := range parts(&x)[:dimensions] {
			*p = d.IntN(1 + int(side))
		}
		l = append(l, x)
	}
	return l, all4(limit)
}

// sparseSample allows a glove a few gloves of the other side.
func sparseSample(d *rand.Rand, left, right int) sample {
	l, limit := spread(d, left+right, 2+8*d.Float64())
	return sample{l[:left:left], l[left:], rule(randomGlove(d, []int{0, 1, 3, 1000}[d.IntN(4)]), limit)}
}

// randomPile has few allowed pairs for each glove: heaps of which all gloves find partners are no use.
func randomPile(d *rand.Rand, count int) pile {
	if d.IntN(9) == 0 {
		s := randomSample(d, count, 0)
		return pile{s.l, s.u}
	}
	h, limit := spread(d, count, 0.6+2.4*d.Float64())
	return pile{h, rule(all4(1), limit)}
}

func randomPiles(count, size int) []pile {
	d := dice()
	var l []pile
	for range count {
		l = append(l, randomPile(d, d.IntN(size+1)))
	}
	return l
}

func fullPiles(count int) []pile {
	d := dice()
	var l []pile
	for i := range count {
		l = append(l, randomPile(d, 32-i%2))
	}
	return l
}

// drawn is the heap of the letters of a picture, in the order of the letters: those are allowed with each other that touch, also at a corner.
func drawn(picture ...string) pile {
	at := map[rune]pair.Glove{}
	var letters []rune
	for y, row := range picture {
		for x, c := range row {
			if c != ' ' {
				at[c] = g(x, y, 0, 0)
				letters = append(letters, c)
			}
		}
	}
	slices.Sort(letters)
	p := pile{u: rule(all4(0), g(1, 1, 0, 0))}
	for _, c := range letters {
		p.h = append(p.h, at[c])
	}
	return p
}

// shuffled is the heap in other orders: a search begins elsewhere in each of them.
func (p pile) shuffled(d *rand.Rand, count int) []pile {
	var l []pile
	for range count {
		h := slices.Clone(p.h)
		d.Shuffle(len(h), func(i, j int) { h[i], h[j] = h[j], h[i] })
		l = append(l, pile{h, p.u})
	}
	return l
}

// rings are heaps with rings of an odd number of gloves, alone, one after another, one within another, with stems.
func rings() []pile {
	l := []pile{
		drawn("a b", "c d"), drawn("abc"), drawn("ab", "c"), drawn("abcde"),
		drawn(" ab", "c  d", " e f", "  g"), drawn(" ab", "c  d", " e f", "  g", "  h"), drawn(" abg", "c   d", " efh"), drawn("  ab", " c  d", "  ef", "  ghi"),
		drawn("a bc ", " d  e", "f gh "), drawn(" ab  kl ", "c  ij  m", " de  no "), drawn("  ab ", " c  d", "  ef  ", " g  h ", "  ij "),
		drawn(" ab  cd ", "e  fg  h", " ij  kl ", "   mn   ", "  o  p  ", "   qr   "), drawn("abcdefghijklmnopqrstuvwxyzABCDEF"), drawn("abcdefghijklmnopqrstuvwxyzABCDE"),
		drawn(" ab cd ef gh ", "i  j  k  l  m", " no pq rs tu "), drawn("  abc  ", " d   e ", "f  g  h", " i   j ", "  klm  "),
	}
	d := dice()
	var out []pile
	for _, p := range l {
		out = append(append(out, p), p.shuffled(d, 20)...)
	}
	return out
}

// tangles are heaps with rings that are closed late, one by way of another.
func tangles(count int) []pile {
	l := []pile{
		{[]pair.Glove{g(2, 1, 2, 0), g(2, 3, 1, 0), g(3, 3, 4, 0), g(3, 2, 3, 1), g(3, 3, 3, 1), g(2, 4, 3, 2), g(4, 4, 1, 3), g(3, 1, 2, 3), g(0, 4, 3, 2)}, rule(all4(0), all4(2))},
		{[]pair.Glove{g(1, 4, 1, 1), g(1, 2, 3, 2), g(4, 4, 3, 0), g(4, 1, 4, 2), g(1, 0, 4, 3), g(4, 4, 4, 3), g(2, 2, 2, 1), g(0, 3, 0, 1), g(2, 3, 4, 3), g(3, 3, 2, 1), g(2, 1, 3, 1)}, rule(all4(0), all4(2))},
		{[]pair.Glove{g(1, 0, 4, 0), g(0, 1, 0, 0), g(2, 2, 3, 0), g(3, 3, 1, 0), g(1, 3, 4, 0), g(0, 2, 3, 0), g(3, 4, 2, 0), g(3, 0, 0, 0), g(0, 4, 4, 0), g(2, 5, 0, 0), g(1, 4, 1, 0)}, rule(all4(0), all4(2))},
	}
	d := dice()
	for range count {
		side := 5 + d.IntN(2)
		var h []pair.Glove
		for range 9 + 2*d.IntN(3) {
			h = append(h, g(d.IntN(side), d.IntN(side), d.IntN(side), d.IntN(side)*d.IntN(2)))
		}
		l = append(l, pile{h, rule(all4(0), all4(2))})
	}
	return l
}

func specialPiles() []pile {
	free := rule(all4(0), all4(1000))
	return []pile{
		{nil, byShade}, {shades(5), byShade}, {shades(5, 5), byShade}, {shades(0, 8, 16), byShade}, {shades(1, 2, 3), byShade}, {shades(0, 11), byShade}, {shades(0, 10), byShade},
		{many(32, all4(9)), free}, {many(31, all4(9)), free}, {many(32, all4(0)), rule(all4(0), all4(0))},
		{append(many(16, all4(0)), many(16, all4(1000))...), rule(all4(0), all4(999))}, {append(many(15, all4(0)), many(17, all4(1000))...), rule(all4(0), all4(999))},
	}
}

// tinyPiles are so small that all their matchings can be listed.
func tinyPiles() []pile {
	return slices.Concat(randomPiles(700, 8), specialPiles()[:7], rings()[:4*21])
}

func piles() []pile {
	return slices.Concat(tinyPiles(), rings(), tangles(2000), randomPiles(900, 18), fullPiles(1500), specialPiles())
}

// badGloves are not valid.
func badGloves() []pair.Glove {
	var l []pair.Glove
	for _, x := range []int{-1, 1001, -1000, -biggest - 1, biggest} {
		l = append(l, g(x, 0, 0, 0), g(0, x, 0, 0), g(0, 0, x, 0), g(0, 0, 0, x), all4(x), g(1000, 1000, x, 1000))
	}
	return l
}

// badSides are no sides, and no heaps.
func badSides() [][]pair.Glove {
	l := [][]pair.Glove{many(33, all4(0)), make([]pair.Glove, 34), many(1000, all4(1000))}
	for _, x := range badGloves() {
		l = append(l, []pair.Glove{x}, []pair.Glove{all4(0), x}, []pair.Glove{x, all4(1)}, append(many(31, all4(5)), x), append(many(32, all4(5)), x))
	}
	return l
}

func badRules() []pair.Rule {
	var l []pair.Rule
	for _, x := range badGloves() {
		l = append(l, rule(x, all4(1)), rule(all4(1), x), rule(x, x))
	}
	return l
}

// call is a function with its name and its result as a text.
type call[T any] struct {
	name string
	text func(T) string
}

// ofSides are all functions of two sides, with other arguments that are valid where both sides have two gloves that are all allowed, and with some of which they fail.
func ofSides() []call[sample] {
	wrong := []int{0, 0}
	return []call[sample]{
		{"Most", func(s sample) string { return show(pair.Most(s.l, s.r, s.u)) }},
		{"Even", func(s sample) string { return show(pair.Even(s.l, s.r, s.u)) }},
		{"Cover", func(s sample) string { return show2(pair.Cover(s.l, s.r, s.u)) }},
		{"Cheapest", func(s sample) string { return show(pair.Cheapest(s.l, s.r, s.u)) }},
		{"Prices", func(s sample) string { return show2(pair.Prices(s.l, s.r, s.u)) }},
		{"Stable", func(s sample) string { return show(pair.Stable(s.l, s.r, s.u)) }},
		{"Weigh", func(s sample) string { return show2(pair.Weigh(s.l, s.r, s.u, []int{0, 1})) }},
		{"Blocking", func(s sample) string { return show(pair.Blocking(s.l, s.r, s.u, []int{0, 1})) }},
		{"Worth", func(s sample) string { return show2(pair.Worth(s.l, s.r, s.u, []int{full, full}, []int{0, 0})) }},
		{"Weigh form", func(s sample) string { return show2(pair.Weigh(s.l, s.r, s.u, wrong)) }},
		{"Blocking form", func(s sample) string { return show(pair.Blocking(s.l, s.r, s.u, wrong)) }},
		{"Worth range", func(s sample) string { return show2(pair.Worth(s.l, s.r, s.u, []int{full, -1}, []int{0, 0})) }},
		{"Weigh size", func(s sample) string { return show2(pair.Weigh(s.l, s.r, s.u, make([]int, 99))) }},
		{"Blocking size", func(s sample) string { return show(pair.Blocking(s.l, s.r, s.u, make([]int, 99))) }},
		{"Worth size", func(s sample) string { return show2(pair.Worth(s.l, s.r, s.u, make([]int, 99), nil)) }},
	}
}

// ofHeap are all functions of a heap, as ofSides.
func ofHeap() []call[pile] {
	return []call[pile]{
		{"Heap", func(p pile) string { return show(pair.Heap(p.h, p.u)) }},
		{"Barrier", func(p pile) string { return show(pair.Barrier(p.h, p.u)) }},
		{"Pairs", func(p pile) string { return show(pair.Pairs(p.h, p.u, []int{1, 0})) }},
		{"Odd", func(p pile) string { return show(pair.Odd(p.h, p.u, []int{0})) }},
		{"Pairs form", func(p pile) string { return show(pair.Pairs(p.h, p.u, []int{1, 1})) }},
		{"Pairs size", func(p pile) string { return show(pair.Pairs(p.h, p.u, make([]int, 99))) }},
		{"Odd twice", func(p pile) string { return show(pair.Odd(p.h, p.u, []int{0, 0})) }},
	}
}
