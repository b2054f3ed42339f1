package cut_test

import (
	"fmt"
	"slices"
	"strings"
	"testing"

	"trank/api"
	"trank/cut"
)

// P5.2: of all plans, where they can be listed.
func TestBestOfAllPlans(t *testing.T) {
	for _, s := range tinySamples() {
		best := 0
		for _, p := range s.allPlans() {
			best = max(best, p.worth)
		}
		same(t, s.String(), show(cut.Best(s.b, s.k)), ok(best))
	}
}

// P5.2, P5.9
func TestBestAndPlan(t *testing.T) {
	for _, s := range samples() {
		best := s.bests()
		p := s.ruled(s.whole(), best)
		same(t, "Best "+s.String(), show(cut.Best(s.b, s.k)), ok(best[s.whole()]))
		same(t, "Plan "+s.String(), show(cut.Plan(s.b, s.k)), ok(p))
		l, worth, e := cut.Read(s.b, s.k, p)
		if worth != best[s.whole()] || e != api.OK {
			t.Error(s, worth, e)
		}
		checkPieces(t, s, l)
	}
}

// checkPieces checks that no two pieces overlap and that each fits.
func checkPieces(t *testing.T, s sample, l []cut.Placed) {
	t.Helper()
	covered := map[[2]int]bool{}
	for _, p := range l {
		a := p.At
		if isFit, isTurned := s.fits(p.Kind, a); !isFit || isTurned != p.Turned {
			t.Error(s, p)
		}
		for y := a.Y; y < a.Y+a.H; y++ {
			for x := a.X; x < a.X+a.W; x++ {
				if covered[[2]int{x, y}] {
					t.Error(s, l)
				}
				covered[[2]int{x, y}] = true
			}
		}
	}
}

// P5.2: every step of the rule by a case of its own.
func TestRuleOfPlan(t *testing.T) {
	for _, c := range []struct {
		b    string
		k    []cut.Kind
		want []cut.Node
	}{
		{"11 11", nil, []cut.Node{{}}},
		{"11 11", []cut.Kind{kd(1, 1, 2, 5)}, []cut.Node{{}}},
		// The lowest of several kinds with the whole worth, also if a cut reaches it; not a lower one with less.
		{"11", []cut.Kind{kd(2, 1, 1, 3), kd(2, 1, 1, 4), turning(1, 2, 1, 4), kd(1, 1, 1, 2)}, []cut.Node{node(opPiece, 1)}},
		{"11", []cut.Kind{kd(2, 1, 2, 4), turning(1, 2, 1, 4), kd(2, 1, 1, 4)}, []cut.Node{turned(1)}},
		{"11", []cut.Kind{kd(2, 1, 1, 3), kd(1, 1, 1, 2)}, []cut.Node{node(opV, 1), node(opPiece, 1), node(opPiece, 1)}},
		// Vertical cuts before horizontal ones, and the lowest Arg.
		{"11 11", []cut.Kind{kd(1, 1, 1, 2)}, []cut.Node{node(opV, 1), node(opH, 1), node(opPiece, 0), node(opPiece, 0), node(opH, 1), node(opPiece, 0), node(opPiece, 0)}},
		{"1111", []cut.Kind{kd(2, 1, 1, 2)}, []cut.Node{node(opV, 2), node(opPiece, 0), node(opPiece, 0)}},
		{"11111", []cut.Kind{kd(2, 1, 1, 2)}, []cut.Node{node(opV, 1), {}, node(opV, 2), node(opPiece, 0), node(opPiece, 0)}},
		{"111 111 111", []cut.Kind{kd(3, 2, 1, 9), kd(1, 1, 1, 1)}, []cut.Node{node(opH, 1), node(opV, 1), node(opPiece, 1), node(opV, 1), node(opPiece, 1), node(opPiece, 1), node(opPiece, 0)}},
		{"000 010 000", []cut.Kind{kd(1, 1, 1, 1)}, []cut.Node{node(opV, 1), {}, node(opV, 1), node(opH, 1), {}, node(opH, 1), node(opPiece, 0), {}, {}}},
	} {
		same(t, c.b, show(cut.Plan(rows(c.b), c.k)), ok(c.want))
	}
}

// P5.2: the grades that a kind needs, and no more of them.
func TestGradesOfKinds(t *testing.T) {
	for g := 1; g <= 9; g++ {
		for have := 0; have <= 9; have++ {
			k := []cut.Kind{turning(2, 3, g, 7)}
			want := 0
			if have >= g {
				want = 7
			}
			same(t, fmt.Sprint(g, have), show(cut.Best(plain(3, 2, fmt.Sprint(have)), k)), ok(want))
			b := plain(3, 2, "9")
			b[1] = "9" + fmt.Sprint(have) + "9"
			same(t, fmt.Sprint(g, have), show(cut.Best(b, k)), ok(want))
		}
	}
	// Kinds of several grades at once.
	var k []cut.Kind
	for g := 1; g <= 9; g++ {
		k = append(k, kd(1, 1, g, g*g*10))
	}
	slices.Reverse(k)
	same(t, "0123456789", show(cut.Best(rows("0123456789"), k)), ok(2850))
}

// P5.2: the greatest worths.
func TestGreatestWorths(t *testing.T) {
	same(t, "1 by 1", show(cut.Best(plain(16, 16, "1"), []cut.Kind{kd(1, 1, 1, 1000000)})), ok(256000000))
	same(t, "16 by 16", show(cut.Best(plain(16, 16, "9"), []cut.Kind{kd(16, 16, 9, 1000000)})), ok(1000000))
	same(t, "12 kinds", show(cut.Best(plain(16, 16, "9"), slices.Repeat([]cut.Kind{turning(16, 1, 9, 1000000)}, 12))), ok(16000000))
}

func mirrored(b []string) []string {
	return made(len(b[0]), len(b), func(x, y int) int { return grade(b, len(b[0])-1-x, y) })
}

// P5.11
func TestMore(t *testing.T) {
	d := dice()
	more := 0
	for _, s := range samples() {
		best := must[int](t)(cut.Best(s.b, s.k))
		same(t, "mirrored "+s.String(), show(cut.Best(mirrored(s.b), s.k)), ok(best))
		if len(s.k) < 12 {
			k := slices.Insert(slices.Clone(s.k), d.IntN(len(s.k)+1), randomKinds(d, 1, max(s.w(), s.h()), 1+d.IntN(9))...)
			v := must[int](t)(cut.Best(s.b, k))
			if v < best {
				t.Error(s, k, v, best)
			}
			more += min(1, v-best)
		}
		x, y := d.IntN(s.w()), d.IntN(s.h())
		if old := grade(s.b, x, y); old < 9 {
			b := slices.Clone(s.b)
			b[y] = b[y][:x] + fmt.Sprint(between(d, old+1, 9)) + b[y][x+1:]
			v := must[int](t)(cut.Best(b, s.k))
			if v < best {
				t.Error(s, b, v, best)
			}
			more += min(1, v-best)
		}
	}
	if more < 50 {
		t.Error(more)
	}
}

// checkRead compares Read, Counts and Rest with the terms, for any nodes.
func checkRead(t *testing.T, s sample, p []cut.Node) bool {
	t.Helper()
	q, isPlan := s.read(p)
	if !isPlan {
		same(t, fmt.Sprint("Read ", s, p), show2(cut.Read(s.b, s.k, p)), fails(api.ErrForm))
		same(t, fmt.Sprint("Counts ", s, p), show(cut.Counts(s.b, s.k, p)), fails(api.ErrForm))
		same(t, fmt.Sprint("Rest ", s, p), show(cut.Rest(s.b, s.k, p)), fails(api.ErrForm))
		return false
	}
	counts := make([]int, len(s.k))
	rest, area := slices.Clone(s.b), 0
	for _, x := range q.pieces {
		counts[x.Kind]++
		area += x.At.W * x.At.H
		for y := x.At.Y; y < x.At.Y+x.At.H; y++ {
			rest[y] = rest[y][:x.At.X] + strings.Repeat("0", x.At.W) + rest[y][x.At.X+x.At.W:]
		}
	}
	same(t, fmt.Sprint("Read ", s, p), show2(cut.Read(s.b, s.k, p)), ok2(q.pieces, q.worth))
	same(t, fmt.Sprint("Counts ", s, p), show(cut.Counts(s.b, s.k, p)), ok(counts))
	same(t, fmt.Sprint("Rest ", s, p), show(cut.Rest(s.b, s.k, p)), ok(rest))
	if usable(rest)+area != usable(s.b) {
		t.Error(s, p)
	}
	return true
}

// usable counts the cells at grade 1.
func usable(b []string) int {
	return len(strings.Join(b, "")) - strings.Count(strings.Join(b, ""), "0")
}

// P5.3, P5.14
func TestReadOfAllPlans(t *testing.T) {
	for _, s := range tinySamples() {
		l := s.allPlans()
		for i := 0; i < len(l); i += 1 + len(l)/500 {
			if !checkRead(t, s, l[i].nodes) {
				t.Error(s, l[i])
			}
		}
	}
}

// P5.3: all short slices of nodes, of which few are plans.
func TestReadOfAllNodes(t *testing.T) {
	var nodes []cut.Node
	for i := range 6 * 5 * 2 {
		nodes = append(nodes, cut.Node{Op: i%6 - 1, Arg: i/6%5 - 1, Turned: i >= 30})
	}
	kinds := []cut.Kind{turning(2, 1, 1, 5), kd(1, 1, 1, 2), kd(1, 2, 1, 5)}
	for _, c := range []struct{ b string }{{"1"}, {"0"}, {"11"}, {"10"}, {"1 1"}, {"11 11"}} {
		s := sample{rows(c.b), kinds}
		plans := map[string]bool{}
		for _, p := range s.allPlans() {
			plans[fmt.Sprint(p.nodes)] = true
		}
		found, short := 0, 0
		for p := range plans {
			if strings.Count(p, "{") <= 3 {
				short++
			}
		}
		check := func(p ...cut.Node) {
			_, _, e := cut.Read(s.b, s.k, p)
			isPlan := e == api.OK
			if isPlan || e != api.ErrForm {
				found++
				if !plans[fmt.Sprint(p)] {
					t.Error(s, p, e)
				}
			}
		}
		check()
		for _, x := range nodes {
			check(x)
			for _, y := range nodes {
				check(x, y)
				for _, z := range nodes {
					check(x, y, z)
				}
			}
		}
		if found != short {
			t.Error(s, found, short)
		}
	}
}

// strange are nodes of no plan at all, and some that may be in one.
func strange(s sample) []cut.Node {
	l := []cut.Node{{}, {Turned: true}, {Arg: 1}, {Arg: -1}, node(-1, 0), node(4, 1), node(biggest, biggest), node(-biggest-1, -biggest-1), node(opPiece, len(s.k)), node(opPiece, -1), node(opPiece, biggest), node(opPiece, -biggest-1)}
	for i := range s.k {
		l = append(l, node(opPiece, i), turned(i))
	}
	for _, op := range []int{opV, opH} {
		for _, arg := range []int{0, -1, 1, 2, 3, s.w() - 1, s.h() - 1, s.w(), s.h(), 16, biggest, -biggest - 1} {
			l = append(l, node(op, arg), cut.Node{Op: op, Arg: arg, Turned: true})
		}
	}
	return l
}

// P5.3, P5.14: plans, changed a little.
func TestReadOfChangedPlans(t *testing.T) {
	d := dice()
	isPlan := 0
	for _, s := range samples() {
		p := must[[]cut.Node](t)(cut.Plan(s.b, s.k))
		if !checkRead(t, s, p) {
			t.Error(s, p)
		}
		checkRead(t, s, append(slices.Clone(p), cut.Node{}))
		checkRead(t, s, append([]cut.Node{{}}, p...))
		checkRead(t, s, p[:len(p)-1])
		checkRead(t, s, nil)
		l := strange(s)
		for range 30 {
			q := slices.Clone(p)
			for range 1 + d.IntN(2) {
				i := d.IntN(len(q))
				switch d.IntN(6) {
				case 0:
					q = slices.Insert(q, i, l[d.IntN(len(l))])
				case 1:
					q = slices.Delete(q, i, min(len(q), i+1+d.IntN(2)))
				case 2:
					q[i].Turned = !q[i].Turned
				case 3:
					q[i].Arg += between(d, -1, 1)
				case 4:
					q[i].Op = d.IntN(4)
				default:
					q[i] = l[d.IntN(len(l))]
				}
				if len(q) == 0 {
					break
				}
			}
			if checkRead(t, s, q) {
				isPlan++
			}
		}
	}
	if isPlan < 500 {
		t.Error(isPlan)
	}
}

// P5.3: random plans, most of them not the best.
func TestReadOfRandomPlans(t *testing.T) {
	d := dice()
	for _, s := range samples() {
		for range 5 {
			if p := s.random(d.IntN, s.whole()); !checkRead(t, s, p) {
				t.Error(s, p)
			}
		}
	}
}

// random is any plan for a.
func (s sample) random(dice func(n int) int, a api.Rect) []cut.Node {
	for i := range s.k {
		if isFit, isTurned := s.fits(i, a); isFit && dice(4) > 0 {
			return []cut.Node{{Op: opPiece, Arg: i, Turned: isTurned}}
		}
	}
	l := cuttings(a)
	if len(l) == 0 || dice(12) == 0 {
		return []cut.Node{{}}
	}
	c := l[dice(len(l))]
	return slices.Concat([]cut.Node{c.node}, s.random(dice, c.one), s.random(dice, c.other))
}

// P5.3: which pieces are turned.
func TestTurned(t *testing.T) {
	for _, c := range []struct {
		b    string
		k    cut.Kind
		n    cut.Node
		want api.Errno
	}{
		{"111", turning(1, 3, 1, 4), turned(0), api.OK}, {"111", turning(1, 3, 1, 4), node(opPiece, 0), api.ErrForm},
		{"111", turning(3, 1, 1, 4), turned(0), api.ErrForm}, {"111", turning(3, 1, 1, 4), node(opPiece, 0), api.OK},
		{"111", kd(1, 3, 1, 4), turned(0), api.ErrForm}, {"111", kd(1, 3, 1, 4), node(opPiece, 0), api.ErrForm},
		{"111", kd(3, 1, 1, 4), turned(0), api.ErrForm}, {"111", kd(3, 1, 1, 4), node(opPiece, 0), api.OK},
		{"11 11", turning(2, 2, 1, 4), turned(0), api.ErrForm}, {"11 11", turning(2, 2, 1, 4), node(opPiece, 0), api.OK},
		{"11 11", kd(2, 2, 1, 4), turned(0), api.ErrForm}, {"11 11", kd(2, 2, 1, 4), node(opPiece, 0), api.OK},
		{"11 10", kd(2, 2, 1, 4), node(opPiece, 0), api.ErrForm}, {"110", turning(1, 3, 1, 4), turned(0), api.ErrForm},
	} {
		_, _, e := cut.Read(rows(c.b), []cut.Kind{c.k}, []cut.Node{c.n})
		if e != c.want {
			t.Error(c, e)
		}
	}
}
