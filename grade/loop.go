package grade

import (
	"slices"

	"trank/api"
	"trank/frac"
)

// Loop returns a loop whose weight is above 0.
func Loop(p Pattern, s api.Frac) ([]int, api.Errno) {
	if !areValid(p, s) {
		return nil, api.ErrArg
	}
	l := p.worst(s)
	if len(l) == 0 {
		return nil, api.ErrNone
	}
	return l, api.OK
}

// step is the heaviest chain of so many rules from an unknown, with the number of its first rule.
type step struct {
	chain
	first int
}

// mean is the weight of a rule on average.
type mean struct{ weight, rules int }

func (m mean) isBelow(o mean) bool { return m.weight*o.rules < o.weight*m.rules }

// worst returns a loop with the greatest mean weight at s, if that is above 0.
//
// This is Karp's theorem: the greatest mean of all loops is the greatest one that meanFrom returns, and each loop on the heaviest chain of N rules from that unknown has it. Any loop above 0 would do for Loop; seek needs few steps with the worst one.
func (p Pattern) worst(s api.Frac) []int {
	levels := p.levels(s)
	most, from := mean{0, 1}, -1
	for i := range p.N {
		if m, ok := p.meanFrom(levels, i); ok && most.isBelow(m) {
			most, from = m, i
		}
	}
	if from < 0 {
		return nil
	}
	return p.firstLoop(levels, from)
}

// levels returns the heaviest chains of 0 to N rules from each unknown.
func (p Pattern) levels(s api.Frac) [][api.MaxNames]step {
	l := make([][api.MaxNames]step, p.N+1)
	for i := range p.N {
		l[0][i].offer(0)
	}
	for n := range p.N {
		for k, r := range p.all() {
			rest := l[n][r.B]
			if rest.exists && l[n+1][r.A].offer(r.weight(s)+rest.weight) {
				l[n+1][r.A].first = k
			}
		}
	}
	return l
}

// meanFrom returns the least mean of what the heaviest chain of N rules from i has more than a shorter one.
func (p Pattern) meanFrom(levels [][api.MaxNames]step, i int) (mean, bool) {
	longest := levels[p.N][i]
	if !longest.exists {
		return mean{}, false
	}
	least := mean{longest.weight, p.N}
	for n := range p.N {
		// It exists too, for the longest chain begins with one of n rules.
		shorter := levels[n][i]
		if m := (mean{longest.weight - shorter.weight, p.N - n}); m.isBelow(least) {
			least = m
		}
	}
	return least, true
}

// firstLoop returns the first loop on the chain of N rules from i. There is one, for the chain goes through an unknown twice.
func (p Pattern) firstLoop(levels [][api.MaxNames]step, i int) []int {
	var been, rules []int
	for n := p.N; !slices.Contains(been, i); n-- {
		k := levels[n][i].first
		been, rules = append(been, i), append(rules, k)
		i = p.rule(k).B
	}
	return rules[slices.Index(been, i):]
}

// sum returns the sum of the rules of a loop: a rule that restricts the size alone.
func (p Pattern) sum(loop []int) Rule {
	var t Rule
	for _, k := range loop {
		t.C += p.rule(k).C
		t.D += p.rule(k).D
	}
	return t
}

// end is an end of the sizes at which a pattern can be satisfied, with the loop that has a weight above 0 beyond it. There is none at the ends of all sizes.
type end struct {
	at   api.Frac
	loop []int
}

// seek goes from an end of all sizes up (way 1) or down (way -1) to the first size at which no loop has a weight above 0. If there is none, it returns the loops that prove it.
//
// Each step goes to where the worst loop has the weight 0. This is Newton's method for the greatest mean weight, which is convex in the size: so its steps are few, and none goes too far.
func (p Pattern) seek(from, way int) (end, [][]int) {
	e := end{at: api.Frac{Num: from, Den: 1}}
	for {
		loop := p.worst(e.at)
		if loop == nil {
			return e, nil
		}
		sum := p.sum(loop)
		at, _ := frac.New(-sum.C, sum.D)
		if sum.D*way >= 0 || !isUpTo(at, maxSize, maxSizeDen) {
			return end{}, e.against(loop)
		}
		e = end{at, loop}
	}
}

// against returns the loop that has a weight above 0 on one side of e, if there is one, and a loop that has it at e and on the other side.
func (e end) against(loop []int) [][]int {
	if e.loop == nil {
		return [][]int{loop}
	}
	return [][]int{e.loop, loop}
}

// interval returns the ends of the sizes, or ErrLoop with the loops that prove that there are none.
func (p Pattern) interval() (low, high end, conflict [][]int, e api.Errno) {
	if !Valid(p) {
		return end{}, end{}, nil, api.ErrArg
	}
	low, conflict = p.seek(0, 1)
	if conflict != nil {
		return end{}, end{}, conflict, api.ErrLoop
	}
	high, _ = p.seek(maxSize, -1)
	return low, high, nil, api.OK
}

// Sizes returns the interval of the sizes at which p can be satisfied.
func Sizes(p Pattern) (lo, hi api.Frac, e api.Errno) {
	low, high, _, e := p.interval()
	return low.at, high.at, e
}

// Ends returns loops that prove the ends of Sizes.
func Ends(p Pattern) (low, high []int, e api.Errno) {
	l, h, _, e := p.interval()
	return l.loop, h.loop, e
}

// Conflict returns loops that prove that there is no size.
func Conflict(p Pattern) ([][]int, api.Errno) {
	_, _, conflict, e := p.interval()
	switch e {
	case api.ErrLoop:
		return conflict, api.OK
	case api.OK:
		return nil, api.ErrNone
	}
	return nil, e
}
