package frac_test

import (
	"slices"
	"testing"

	"trank/api"
	"trank/frac"
)

// The numbered examples of the chapter.

func TestExample1(t *testing.T) {
	same(t, "New(6, -4)", got(frac.New(6, -4)), ok(-3, 2))
	same(t, "New(0, 7)", got(frac.New(0, 7)), ok(0, 1))
	same(t, "New(1, 0)", got(frac.New(1, 0)), fails(api.ErrZero))
	same(t, "New(2000000000, 4)", got(frac.New(2000000000, 4)), ok(500000000, 1))
	same(t, "New(1000000001, 1)", got(frac.New(1000000001, 1)), fails(api.ErrRange))
}

func TestExample2(t *testing.T) {
	for want, x := range map[string]api.Frac{"6 3/4": f(27, 4), "-1/2": f(-1, 2), "-6 3/4": f(-27, 4)} {
		if s, e := frac.Print(x); s != want || e != api.OK {
			t.Error(x, s, e)
		}
	}
	for _, s := range []string{"6 2/4", "+1", "1/1", "0/1", "-0", "06", "6  3/4"} {
		same(t, s, got(frac.Parse(s)), fails(api.ErrForm))
	}
}

func TestExample3(t *testing.T) {
	for m, want := range []int{-4, -3, -3, -3, -4} {
		if n, e := frac.Round(f(-7, 2), api.Mode(m)); n != want || e != api.OK {
			t.Error(m, n, e)
		}
	}
	same(t, "RoundTo", got(frac.RoundTo(f(29, 4), f(1, 2), api.HalfEven)), ok(7, 1))
}

func TestExample4(t *testing.T) {
	for _, c := range []struct {
		x    api.Frac
		want []int
	}{
		{f(43, 30), []int{1, 2, 3, 4}}, {f(-1, 2), []int{-1, 2}}, {f(3, 1), []int{3}},
	} {
		if l, e := frac.Terms(c.x); !slices.Equal(l, c.want) || e != api.OK {
			t.Error(c.x, l, e)
		}
	}
	same(t, "FromTerms(1 2 1)", got(frac.FromTerms([]int{1, 2, 1})), fails(api.ErrArg))
}

func TestExample5(t *testing.T) {
	same(t, "Below", got(frac.Below(f(43, 30), 10)), ok(10, 7))
	same(t, "Above", got(frac.Above(f(43, 30), 10)), ok(13, 9))
	same(t, "Near", got(frac.Near(f(43, 30), 10)), ok(10, 7))
}

func TestExample6(t *testing.T) {
	same(t, "Simplest", got(frac.Simplest(f(2, 7), f(1, 3))), ok(1, 3))
	same(t, "Simplest", got(frac.Simplest(f(-1, 3), f(1, 2))), ok(0, 1))
	same(t, "Simplest", got(frac.Simplest(f(3, 10), f(97, 300))), ok(3, 10))
}

func TestExample7(t *testing.T) {
	for _, c := range []struct {
		n       int
		w, want []int
	}{
		{10, []int{1, 1, 1}, []int{4, 3, 3}}, {7, []int{3, 0, 2, 2}, []int{3, 0, 2, 2}}, {1, []int{1, 1}, []int{1, 0}},
	} {
		if l, e := frac.Share(c.n, c.w); !slices.Equal(l, c.want) || e != api.OK {
			t.Error(c.n, c.w, l, e)
		}
	}
}

func TestExample8(t *testing.T) {
	same(t, "Blend", got(frac.Blend([]api.Frac{f(1, 2), f(1, 3)}, []int{2, 1})), ok(4, 9))
	same(t, "Mediant", got(frac.Mediant(f(1, 2), f(1, 3))), ok(2, 5))
}
