package grade_test

import (
	"fmt"
	"math/big"
	"math/rand/v2"
	"testing"

	"trank/api"
	"trank/grade"
)

// P4.1: Valid, Fits, Slack.

func TestValid(t *testing.T) {
	good := []grade.Pattern{pat(1), pat(16), {N: 3, Rules: []grade.Rule{}}, pat(1, make([]grade.Rule, 64)...), pat(16, r(15, 15, 1000, 100), r(0, 15, -1000, -100), r(15, 0, 0, 0)), stuck(), ladder(16), crowd(1000, 100)}
	for i, p := range good {
		if !grade.Valid(p) {
			t.Error(i, p)
		}
	}
	for i, p := range badPatterns() {
		if grade.Valid(p) {
			t.Error(i, p)
		}
	}
	for unknowns := -3; unknowns <= 20; unknowns++ {
		if grade.Valid(pat(unknowns)) != (unknowns >= 1 && unknowns <= 16) {
			t.Error(unknowns)
		}
		for i := -2; i <= 20; i++ {
			want := unknowns >= 1 && unknowns <= 16 && i >= 0 && i < unknowns
			if grade.Valid(pat(unknowns, r(i, 0, 0, 0))) != want || grade.Valid(pat(unknowns, r(0, i, 0, 0))) != want {
				t.Error(unknowns, i)
			}
		}
	}
}

func TestFitsOfGlove(t *testing.T) {
	p := glove()
	cases := []struct {
		x    []api.Frac
		want bool
	}{
		{whole(0, 24, 36), true}, {whole(0, 48, 60), true}, {whole(0, 30, 42), true}, {whole(0, 30, 50), true},
		{whole(0, 23, 36), false}, {whole(0, 24, 35), false}, {whole(0, 48, 61), false}, {whole(0, 49, 60), false},
		{whole(1, 25, 37), false}, {whole(-1, 24, 36), false}, {whole(0, -24, 36), false}, {whole(0, 0, 0), false},
		{[]api.Frac{n(0), f(99, 4), f(147, 4)}, true}, {[]api.Frac{n(0), f(95, 4), f(147, 4)}, false}, {[]api.Frac{n(0), f(99, 4), f(73, 2)}, false},
	}
	for _, c := range cases {
		same(t, fmt.Sprint(c.x), show(grade.Fits(p, n(7), c.x)), ok(c.want))
	}
}

// The rules of the ground, and the zero in element 0, count as well.
func TestFitsOfGround(t *testing.T) {
	for _, s := range someSizes() {
		tiny := f(-1, api.MaxPart)
		same(t, "zero", show(grade.Fits(pat(1), s, whole(0))), ok(true))
		same(t, "one", show(grade.Fits(pat(1), s, whole(1))), ok(false))
		same(t, "all one", show(grade.Fits(pat(2), s, whole(1, 1))), ok(false))
		same(t, "minus one", show(grade.Fits(pat(1), s, whole(-1))), ok(false))
		same(t, "above", show(grade.Fits(pat(3), s, whole(0, 5, api.MaxPart))), ok(true))
		same(t, "ground 1", show(grade.Fits(pat(3), s, []api.Frac{n(0), tiny, n(1)})), ok(false))
		same(t, "ground 2", show(grade.Fits(pat(3), s, []api.Frac{n(0), n(1), tiny})), ok(false))
		same(t, "stuck", show(grade.Fits(stuck(), s, whole(0, 0))), ok(false))
		same(t, "heavy", show(grade.Fits(pat(1, r(0, 0, 1000, 100)), s, whole(0))), ok(false))
		same(t, "light", show(grade.Fits(pat(1, r(0, 0, -1000, -100)), s, whole(0))), ok(true))
	}
}

// All small assignments of small patterns, by exact arithmetic.
func TestFitsSmall(t *testing.T) {
	for _, p := range smallPatterns() {
		for _, s := range []api.Frac{n(0), n(1), f(1, 2)} {
			for _, x := range wholeAssignments(min(p.N, 2), 3) {
				for len(x) < p.N {
					x = append(x, n(60))
				}
				same(t, fmt.Sprint(p, s, x), show(grade.Fits(p, s, x)), ok(satisfies(p, s, x)))
			}
		}
	}
}

// anyFrac has parts up to all limits.
func anyFrac(d *rand.Rand) api.Frac {
	large := []int{10, 1000, api.MaxPart}[d.IntN(3)]
	x, _ := fracOf(big.NewRat(d.Int64N(int64(large)), 1+d.Int64N(int64(large))))
	return x
}

// near returns a fraction with a random Den that is next to x, which is not below 0: the one below it or the one above.
func near(d *rand.Rand, x *big.Rat) (api.Frac, bool) {
	size, _ := x.Float64()
	den := 1 + d.Int64N(int64(api.MaxPart/(1+size)))
	scaled := new(big.Int).Mul(x.Num(), big.NewInt(den))
	num := scaled.Div(scaled, x.Denom())
	return fracOf(new(big.Rat).SetFrac(num.Add(num, big.NewInt(d.Int64N(2))), big.NewInt(den)))
}

// Differences that are not representable are compared exactly: the elements differ from what the rule asks by next to nothing.
func TestFitsClosely(t *testing.T) {
	d := dice()
	count := map[bool]int{}
	for range 20000 {
		s, x := someSizes()[d.IntN(10)], anyFrac(d)
		p := pat(3, r(2, 1, between(d, -1000, 1000), between(d, -100, 100)))
		if d.IntN(2) == 0 {
			p.Rules[0].C, p.Rules[0].D = between(d, -2, 2), between(d, -2, 2)
		}
		want := weightAt(p.Rules[0].C, p.Rules[0].D, s)
		if want.Add(want, rat(x)).Sign() < 0 {
			continue
		}
		y, isFrac := near(d, want)
		if !isFrac {
			continue
		}
		l := []api.Frac{n(0), x, y}
		fits := satisfies(p, s, l)
		count[fits]++
		same(t, fmt.Sprint(p, s, l), show(grade.Fits(p, s, l)), ok(fits))
	}
	if count[true] < 3000 || count[false] < 3000 {
		t.Error(count)
	}
}

func TestFitsLargest(t *testing.T) {
	most := api.MaxPart
	x := []api.Frac{n(0), f(1, most-1), f(1, most)}
	same(t, "hardly above", show(grade.Fits(pat(3, r(1, 2, 0, 0)), n(0), x)), ok(true))
	same(t, "hardly below", show(grade.Fits(pat(3, r(2, 1, 0, 0)), n(0), x)), ok(false))
	same(t, "far above", show(grade.Fits(pat(3, r(2, 1, 1000, 100)), f(399999, 10000), whole(0, 0, most))), ok(true))
	same(t, "far below", show(grade.Fits(pat(3, r(1, 2, -1000, -100)), f(399999, 10000), whole(0, 0, most))), ok(false))
	same(t, "both", show(grade.Fits(pat(2, r(1, 0, -1000, 0)), n(40), whole(-most, most))), ok(false))
	same(t, "below all", show(grade.Fits(pat(2, r(1, 0, -1000, 0)), n(40), whole(0, -most))), ok(false))
}

// slackOf is Slack by exact arithmetic.
func slackOf(p grade.Pattern, s api.Frac, x []api.Frac) string {
	var l []api.Frac
	for _, u := range p.Rules {
		diff := new(big.Rat).Sub(rat(x[u.A]), rat(x[u.B]))
		_, isFirst := fracOf(diff)
		y, isSecond := fracOf(diff.Sub(diff, weightAt(u.C, u.D, s)))
		if !isFirst || !isSecond {
			return fails(api.ErrRange)
		}
		l = append(l, y)
	}
	return ok(l)
}

func TestSlack(t *testing.T) {
	same(t, "glove", show(grade.Slack(glove(), n(7), whole(0, 30, 40))), ok(whole(6, -2, 20)))
	same(t, "not at zero", show(grade.Slack(glove(), n(7), whole(5, 30, 40))), ok(whole(1, -2, 25)))
	same(t, "below zero", show(grade.Slack(glove(), f(1, 2), []api.Frac{n(0), f(-1, 3), n(0)})), ok([]api.Frac{f(-34, 3), f(-31, 6), n(60)}))
	same(t, "no rules", show(grade.Slack(pat(3), n(7), whole(0, 30, 40))), ok([]api.Frac{}))
	same(t, "itself", show(grade.Slack(pat(1, r(0, 0, -3, 1)), f(7, 2), whole(9))), ok([]api.Frac{f(-1, 2)}))
	d := dice()
	for i, p := range append(fewPatterns(2000), largePatterns(100)...) {
		s := sizesOf(p)[i%10]
		var x []api.Frac
		for range p.N {
			y := anyFrac(d)
			if d.IntN(3) > 0 {
				y = f(between(d, -60, 60), 1)
			}
			x = append(x, y)
		}
		same(t, fmt.Sprint(p, s, x), show(grade.Slack(p, s, x)), slackOf(p, s, x))
	}
}

func TestSlackTooLarge(t *testing.T) {
	most := api.MaxPart
	cases := []struct {
		rule grade.Rule
		x    []api.Frac
		want string
	}{
		// The first difference decides, although the second one would be representable.
		{r(1, 0, 6, 0), whole(-5, most), fails(api.ErrRange)},
		{r(1, 0, 0, 0), whole(0, most), ok(whole(most))},
		{r(1, 0, 5, 0), whole(0, most), ok(whole(most - 5))},
		{r(1, 0, -1, 0), whole(0, most), fails(api.ErrRange)},
		{r(0, 1, 1, 0), whole(0, most), fails(api.ErrRange)},
		{r(0, 1, 0, 0), whole(0, most), ok(whole(-most))},
		{r(1, 0, 0, 0), []api.Frac{f(1, most), f(1, most-1)}, fails(api.ErrRange)},
		{r(1, 0, 0, 0), []api.Frac{f(1, most), f(3, most)}, ok([]api.Frac{f(1, most/2)})},
		{r(1, 0, 3, 0), []api.Frac{n(0), f(1, most)}, fails(api.ErrRange)},
		{r(1, 1, 3, 0), []api.Frac{f(1, most), f(1, most-1)}, ok(whole(-3))},
	}
	for _, c := range cases {
		same(t, fmt.Sprint(c), show(grade.Slack(pat(2, c.rule), n(1), c.x)), c.want)
		// A sound rule before or behind it changes nothing of an error.
		if c.want == fails(api.ErrRange) {
			sound := r(1, 1, 0, 0)
			same(t, fmt.Sprint(c), show(grade.Slack(pat(2, sound, c.rule), n(1), c.x)), c.want)
			same(t, fmt.Sprint(c), show(grade.Slack(pat(2, c.rule, sound), n(1), c.x)), c.want)
		}
	}
}

// ErrArg unless x has N valid elements.
func TestInvalidAssignments(t *testing.T) {
	p := pat(2, r(1, 0, 0, 0))
	bad := [][]api.Frac{nil, {}, whole(0), whole(0, 0, 0), make([]api.Frac, 2), whole(0, 0, 0)[:1], make([]api.Frac, 1000)}
	for _, x := range badFracs() {
		bad = append(bad, []api.Frac{x, n(0)}, []api.Frac{n(0), x}, []api.Frac{n(1), x}, []api.Frac{x, n(api.MaxPart)}, []api.Frac{x, x})
	}
	for _, x := range bad {
		same(t, fmt.Sprint("Fits ", x), show(grade.Fits(p, n(7), x)), fails(api.ErrArg))
		same(t, fmt.Sprint("Slack ", x), show(grade.Slack(p, n(7), x)), fails(api.ErrArg))
	}
	// ErrArg before ErrRange.
	for _, x := range badFracs() {
		same(t, "Slack", show(grade.Slack(pat(3, r(1, 0, 0, 0)), n(7), []api.Frac{n(-api.MaxPart), n(api.MaxPart), x})), fails(api.ErrArg))
	}
}
