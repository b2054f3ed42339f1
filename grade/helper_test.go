package grade_test

import (
	"fmt"
	"math/big"
	"math/rand/v2"
	"slices"
	"testing"

	"trank/api"
	"trank/grade"
)

const biggest = int(^uint(0) >> 1)

func f(num, den int) api.Frac { return api.Frac{Num: num, Den: den} }

func n(num int) api.Frac { return f(num, 1) }

func whole(l ...int) []api.Frac {
	var out []api.Frac
	for _, x := range l {
		out = append(out, n(x))
	}
	return out
}

func r(a, b, c, d int) grade.Rule { return grade.Rule{A: a, B: b, C: c, D: d} }

func pat(unknowns int, rules ...grade.Rule) grade.Pattern {
	return grade.Pattern{N: unknowns, Rules: rules}
}

// glove is the pattern of examples 1 to 3.
func glove() grade.Pattern { return pat(3, r(1, 0, 10, 2), r(2, 1, 5, 1), r(0, 2, -60, 0)) }

// stuck can be satisfied at no size.
func stuck() grade.Pattern { return pat(2, r(0, 0, 1, 0)) }

func rat(x api.Frac) *big.Rat { return big.NewRat(int64(x.Num), int64(x.Den)) }

// fracOf reports whether x is representable.
func fracOf(x *big.Rat) (api.Frac, bool) {
	most := big.NewInt(api.MaxPart)
	if x.Num().CmpAbs(most) > 0 || x.Denom().Cmp(most) > 0 {
		return api.Frac{}, false
	}
	return f(int(x.Num().Int64()), int(x.Denom().Int64())), true
}

// fails is what show returns of an error.
func fails(e api.Errno) string { return fmt.Sprint("error ", int(e)) }

func ok[T any](x T) string { return show(x, api.OK) }

// show is the text of a result; it also tells of a result beside an error.
func show[T any](x T, e api.Errno) string {
	if e != api.OK && fmt.Sprint(x) == fmt.Sprint(*new(T)) {
		return fails(e)
	}
	if e != api.OK {
		return fmt.Sprint(fails(e), " beside ", x)
	}
	return fmt.Sprint(x)
}

// show2 is show of two results.
func show2[A, B any](x A, y B, e api.Errno) string {
	type both struct {
		X A
		Y B
	}
	return show(both{x, y}, e)
}

func ok2[A, B any](x A, y B) string { return show2(x, y, api.OK) }

func same(t *testing.T, what, have, want string) {
	t.Helper()
	if have != want {
		t.Errorf("%s:\nhave %s\nwant %s", what, have, want)
	}
}

// must is the result of a call that has to be OK.
func must[T any](t *testing.T) func(x T, e api.Errno) T {
	return func(x T, e api.Errno) T {
		t.Helper()
		if e != api.OK {
			t.Error(fails(e))
		}
		return x
	}
}

// dice makes the same patterns in every run.
func dice() *rand.Rand { return rand.New(rand.NewPCG(4, 16)) }

func between(d *rand.Rand, low, high int) int { return low + d.IntN(high-low+1) }

// anyPattern has rules of any kind; few of them can be satisfied if there are many rules.
func anyPattern(d *rand.Rand, unknowns, rules int) grade.Pattern {
	p := pat(unknowns)
	c, e := []int{3, 60, 1000}[d.IntN(3)], []int{0, 2, 10, 100}[d.IntN(4)]
	for range rules {
		p.Rules = append(p.Rules, r(d.IntN(unknowns), d.IntN(unknowns), between(d, -c, c), between(d, -e, e)))
	}
	return p
}

// drawn is satisfied by an assignment at a whole size; many of its rules hold with equality there.
func drawn(d *rand.Rand, unknowns, rules int) grade.Pattern {
	p := pat(unknowns)
	size, e, spare := d.IntN(41), []int{0, 1, 5, 15}[d.IntN(4)], 1+d.IntN(4)
	x := make([]int, unknowns)
	for i := 1; i < unknowns; i++ {
		x[i] = d.IntN(200)
	}
	for range rules {
		a, b, slope := d.IntN(unknowns), d.IntN(unknowns), between(d, -e, e)
		p.Rules = append(p.Rules, r(a, b, x[a]-x[b]-slope*size-d.IntN(spare), slope))
	}
	return p
}

// fewPatterns are so small that all their loops and chains can be listed.
func fewPatterns(count int) []grade.Pattern {
	d := dice()
	var l []grade.Pattern
	for i := range count {
		unknowns, rules := 1+d.IntN(4), d.IntN(7)
		if i%2 == 0 {
			l = append(l, anyPattern(d, unknowns, rules))
		} else {
			l = append(l, drawn(d, unknowns, rules))
		}
	}
	return l
}

// tinyPatterns are all patterns of one or two unknowns with two rules whose C and D are -1, 0 or 1.
func tinyPatterns() []grade.Pattern {
	var l []grade.Pattern
	for unknowns := 1; unknowns <= 2; unknowns++ {
		var rules []grade.Rule
		for i := range unknowns * unknowns * 9 {
			rules = append(rules, r(i/9/unknowns, i/9%unknowns, i/3%3-1, i%3-1))
		}
		for _, a := range rules {
			for _, b := range rules {
				l = append(l, pat(unknowns, a, b))
			}
		}
	}
	return l
}

func smallPatterns() []grade.Pattern {
	return slices.Concat(special(), tinyPatterns(), fewPatterns(2500))
}

// largePatterns have up to 16 unknowns and 64 rules.
func largePatterns(count int) []grade.Pattern {
	d := dice()
	var l []grade.Pattern
	for i := range count {
		unknowns, rules := between(d, 5, 16), between(d, 10, 64)
		if i%5 == 0 {
			l = append(l, anyPattern(d, unknowns, between(d, 5, 20)))
		} else {
			l = append(l, drawn(d, unknowns, rules))
		}
	}
	return append(l, ladder(5), ladder(16), ring(-7, 100), ring(7, -100), ring(-1, 100), ring(999, -100), crowd(1000, 100), crowd(-1000, -100), crowd(-1000, 25), crowd(1000, -26))
}

// special are small patterns with something of their own.
func special() []grade.Pattern {
	return []grade.Pattern{
		glove(), stuck(), pat(1), pat(2), pat(4),
		pat(1, r(0, 0, -3, 1)), pat(1, r(0, 0, 3, -1)), pat(1, r(0, 0, -3, 1), r(0, 0, 4, -1)),
		pat(2, r(1, 0, 5, 0), r(1, 0, 3, 0)),
		// The ends of all sizes, and beyond them.
		pat(1, r(0, 0, 0, 1)), pat(1, r(0, 0, 40, -1)), pat(1, r(0, 0, -40, 1)), pat(1, r(0, 0, 0, -1)), pat(1, r(0, 0, 41, -1)), pat(1, r(0, 0, 1, 1)), pat(1, r(0, 0, -41, 1)), pat(1, r(0, 0, 1000, -24)),
		// One size alone, or hardly none.
		pat(1, r(0, 0, -1, 3), r(0, 0, 1, -3)), pat(1, r(0, 0, -100, 3), r(0, 0, 100, -3)), pat(1, r(0, 0, -99, 100), r(0, 0, 98, -99)), pat(1, r(0, 0, -98, 99), r(0, 0, 99, -100)),
		// Loops with the weight 0: of own rules, of ground rules, of a rule with itself.
		pat(3, r(1, 2, 4, 1), r(2, 1, -4, -1), r(1, 0, 0, 0)), pat(3, r(0, 1, 0, 0), r(0, 2, 0, 0)), pat(3, r(2, 2, 0, 0), r(1, 1, 0, 0), r(0, 0, 0, 0)), pat(4, r(1, 2, 0, 0), r(2, 3, 0, 0), r(3, 1, 0, 0)),
		pat(4, r(1, 2, 3, 0), r(2, 1, -3, 0), r(2, 3, 3, 0), r(3, 2, -3, 0), r(3, 0, 5, 0)),
		// Many steps to the ends.
		pat(4, r(0, 1, -1000, 100), r(1, 2, 1, 90), r(2, 3, -7, 3), r(3, 0, 900, -50), r(0, 3, -999, 7), r(2, 0, 300, -10)),
		pat(1, r(0, 0, 1000, -100), r(0, 0, 990, -98), r(0, 0, 1000, -99), r(0, 0, 700, -37), r(0, 0, 500, -17), r(0, 0, 100, -3)),
		pat(1, r(0, 0, -1000, 100), r(0, 0, -990, 98), r(0, 0, -1000, 99), r(0, 0, -700, 37), r(0, 0, -500, 17), r(0, 0, -100, 3)),
		// The heaviest rules.
		pat(2, r(1, 0, 1000, 100), r(0, 1, -1000, -100)), pat(2, r(1, 0, 1000, 100), r(0, 1, 1000, 100)), pat(3, r(0, 1, -1000, -100), r(1, 2, -1000, -100)),
	}
}

// ladder has the heaviest chain of all.
func ladder(unknowns int) grade.Pattern {
	p := pat(unknowns)
	for i := 1; i < unknowns; i++ {
		p.Rules = append(p.Rules, r(i, i-1, 1000, 100))
	}
	return p
}

// ring has a loop through all 16 unknowns, whose weight is c + 16·d·s for a c of less than 1000; the shorter ones, with ground rules, come to less.
func ring(c, d int) grade.Pattern {
	p := pat(16, r(0, 1, -1000, d), r(1, 2, c, d), r(15, 0, 1000, d))
	for i := 2; i < 15; i++ {
		p.Rules = append(p.Rules, r(i, i+1, 0, d))
	}
	return p
}

// crowd has 64 equal rules between 16 unknowns.
func crowd(c, d int) grade.Pattern {
	p := pat(16)
	for i := range 64 {
		p.Rules = append(p.Rules, r(i%16, (i%16*3+i/16*5+1)%16, c, d))
	}
	return p
}

// someSizes are the ends of all sizes, whole ones, and fractions with large parts.
func someSizes() []api.Frac {
	return []api.Frac{n(0), n(7), n(40), f(1, 2), f(1, 3), f(41, 3), f(1, 10000), f(399999, 10000), f(100003, 9999), n(20)}
}

// sizesOf adds the ends of the sizes of p, and sizes close to them.
func sizesOf(p grade.Pattern) []api.Frac {
	l := someSizes()
	lo, hi, e := grade.Sizes(p)
	if e != api.OK {
		return l
	}
	for _, x := range []api.Frac{lo, hi} {
		l = append(l, x)
		k := 10000 / x.Den
		for _, num := range []int{x.Num*k - 1, x.Num*k + 1} {
			y, _ := fracOf(big.NewRat(int64(num), int64(x.Den*k)))
			if num >= 0 && num <= 40*x.Den*k {
				l = append(l, y)
			}
		}
	}
	return l
}

// badFracs are fractions that are not valid.
func badFracs() []api.Frac {
	return []api.Frac{{}, f(0, 2), f(2, 4), f(4, 2), f(1, 0), f(1, -2), f(api.MaxPart+1, 1), f(1, api.MaxPart+1), f(-1, 0), f(0, -1), f(biggest, biggest), f(-biggest-1, -biggest-1), f(0, biggest)}
}

func badSizes() []api.Frac {
	return append(badFracs(), n(-1), f(-1, 10000), n(41), f(400001, 10000), f(399961, 9999), f(1, 10001), f(400039, 10001), f(1, api.MaxPart), n(api.MaxPart), n(-api.MaxPart))
}

func badPatterns() []grade.Pattern {
	l := []grade.Pattern{{}, pat(0, r(0, 0, 0, 0)), pat(-1), pat(17), pat(17, r(16, 16, 0, 0)), pat(biggest), pat(-biggest - 1), pat(2, make([]grade.Rule, 65)...), pat(1, make([]grade.Rule, 1000)...)}
	bad := []grade.Rule{r(-1, 0, 0, 0), r(0, -1, 0, 0), r(2, 0, 0, 0), r(0, 2, 0, 0), r(0, 0, 1001, 0), r(0, 0, -1001, 0), r(0, 0, 0, 101), r(0, 0, 0, -101)}
	for _, x := range []int{biggest, -biggest - 1, -biggest} {
		bad = append(bad, r(x, 0, 0, 0), r(0, x, 0, 0), r(0, 0, x, 0), r(0, 0, 0, x), r(x, x, x, x))
	}
	for _, x := range bad {
		l = append(l, pat(2, x), pat(2, r(1, 0, 1, 0), x), pat(2, x, r(1, 0, 1, 0)), pat(2, append(make([]grade.Rule, 63), x)...))
	}
	return l
}

// call is a function of the package with its name and with its result as a text.
type call struct {
	name string
	text func(p grade.Pattern, s api.Frac) string
}

// ofSize are all functions of a pattern and a size, with other arguments that are valid for all patterns.
func ofSize() []call {
	return []call{
		{"Fits", func(p grade.Pattern, s api.Frac) string { return show(grade.Fits(p, s, zeros(p))) }},
		{"Slack", func(p grade.Pattern, s api.Frac) string { return show(grade.Slack(p, s, zeros(p))) }},
		{"Least", func(p grade.Pattern, s api.Frac) string { return show(grade.Least(p, s)) }},
		{"Greatest", func(p grade.Pattern, s api.Frac) string { return show(grade.Greatest(p, s, n(100))) }},
		{"Gap", func(p grade.Pattern, s api.Frac) string { return show2(grade.Gap(p, s, 0, 0)) }},
		{"Loop", func(p grade.Pattern, s api.Frac) string { return show(grade.Loop(p, s)) }},
		{"Tight", func(p grade.Pattern, s api.Frac) string { return show(grade.Tight(p, s)) }},
		{"Chain", func(p grade.Pattern, s api.Frac) string { return show(grade.Chain(p, s, 0)) }},
		{"Implied", func(p grade.Pattern, s api.Frac) string { return show(grade.Implied(p, s, 0)) }},
		{"Core", func(p grade.Pattern, s api.Frac) string { return show(grade.Core(p, s)) }},
		{"Equal first", func(p grade.Pattern, s api.Frac) string { return show(grade.Equal(p, pat(1), s)) }},
		{"Equal second", func(p grade.Pattern, s api.Frac) string { return show(grade.Equal(pat(1), p, s)) }},
	}
}

// ofPattern are all functions of a pattern alone.
func ofPattern() []call {
	return []call{
		{"Sizes", func(p grade.Pattern, _ api.Frac) string { return show2(grade.Sizes(p)) }},
		{"Ends", func(p grade.Pattern, _ api.Frac) string { return show2(grade.Ends(p)) }},
		{"Conflict", func(p grade.Pattern, _ api.Frac) string { return show(grade.Conflict(p)) }},
	}
}

// zeros has a fraction for each unknown, or none if p has too many.
func zeros(p grade.Pattern) []api.Frac {
	var l []api.Frac
	for i := 0; i < p.N && i < 100; i++ {
		l = append(l, n(0))
	}
	return l
}
