package grade

import (
	"slices"

	"trank/api"
	"trank/frac"
)

// chain is the heaviest of some chains of rules, if there is one.
type chain struct {
	exists bool
	weight int
}

// offer replaces c by a heavier chain and reports whether it did.
func (c *chain) offer(weight int) bool {
	if c.exists && c.weight >= weight {
		return false
	}
	*c = chain{true, weight}
	return true
}

// closure has the heaviest chains from each unknown to each other one. Patterns with equal closures are satisfied by the same assignments: each chain is a rule that follows from the others.
type closure struct {
	n    int
	best [api.MaxNames][api.MaxNames]chain
}

// closureOf fails with ErrLoop if a loop has a weight above 0 at s.
func closureOf(p Pattern, s api.Frac) (closure, api.Errno) {
	c := closure{n: p.N}
	for i := range p.N {
		c.best[i][i].offer(0)
	}
	for _, r := range p.all() {
		c.best[r.A][r.B].offer(r.weight(s))
	}
	for via := range p.N {
		// Going on with such a loop, the weights might grow beyond an int.
		if c.best[via][via].weight > 0 {
			return closure{}, api.ErrLoop
		}
		c.connect(via)
	}
	return c, api.OK
}

// connect joins the chains to via with those from it.
func (c *closure) connect(via int) {
	for a := range c.n {
		for b := range c.n {
			to, from := c.best[a][via], c.best[via][b]
			if to.exists && from.exists {
				c.best[a][b].offer(to.weight + from.weight)
			}
		}
	}
}

// closureIf is closureOf after the check of arguments: the pattern, the size, and what the caller says of the others.
func closureIf(others bool, p Pattern, s api.Frac) (closure, api.Errno) {
	if !areValid(p, s) || !others {
		return closure{}, api.ErrArg
	}
	return closureOf(p, s)
}

// least is the weight that stands for element i of Least. A chain from i to 0 exists: the ground rule.
func (c *closure) least(i int) int { return c.best[i][0].weight }

// isTight reports whether r holds with equality for Least.
func (c *closure) isTight(r Rule, s api.Frac) bool {
	return c.least(r.A)-c.least(r.B) == r.weight(s)
}

// implies reports whether r holds for all assignments.
func (c *closure) implies(r Rule, s api.Frac) bool {
	g := c.best[r.A][r.B]
	return g.exists && g.weight >= r.weight(s)
}

// Least returns the least assignment.
func Least(p Pattern, s api.Frac) ([]api.Frac, api.Errno) {
	c, e := closureIf(true, p, s)
	if e != api.OK {
		return nil, e
	}
	var l []api.Frac
	for i := range p.N {
		l = append(l, measure(c.least(i), s))
	}
	return l, api.OK
}

// Greatest returns the greatest assignment that is not above most.
func Greatest(p Pattern, s, most api.Frac) ([]api.Frac, api.Errno) {
	c, e := closureIf(isUpTo(most, maxMost, maxMostDen), p, s)
	if e != api.OK {
		return nil, e
	}
	// A bound that is not the least one of its unknown need not be representable: fractions are made of the results alone.
	top, den := most.Num*s.Den, most.Den*s.Den
	for i := range p.N {
		if c.least(i)*most.Den > top {
			return nil, api.ErrShort
		}
	}
	var l []api.Frac
	for i := range p.N {
		f, e := frac.New(c.greatest(i, top, most.Den), den)
		if e != api.OK {
			return nil, e
		}
		l = append(l, f)
	}
	return l, api.OK
}

// greatest is the least of the bounds of unknown i: each other one is at most top, and unknown 0 is 0. A weight counts scale times.
func (c *closure) greatest(i, top, scale int) int {
	bound := top
	for j := range c.n {
		if g := c.best[j][i]; g.exists {
			bound = min(bound, top-g.weight*scale)
		}
	}
	if g := c.best[0][i]; g.exists {
		bound = min(bound, -g.weight*scale)
	}
	return bound
}

// Gap returns by how much x[a] exceeds x[b] at least.
func Gap(p Pattern, s api.Frac, a, b int) (api.Frac, bool, api.Errno) {
	c, e := closureIf(p.has(a) && p.has(b), p, s)
	if e != api.OK || !c.best[a][b].exists {
		return api.Frac{}, false, e
	}
	return measure(c.best[a][b].weight, s), true, api.OK
}

// Tight returns the rules that hold with equality for Least.
func Tight(p Pattern, s api.Frac) ([]int, api.Errno) {
	c, e := closureIf(true, p, s)
	if e != api.OK {
		return nil, e
	}
	var l []int
	for k, r := range p.Rules {
		if c.isTight(r, s) {
			l = append(l, k)
		}
	}
	return l, api.OK
}

// Chain returns rules that prove an element of Least.
func Chain(p Pattern, s api.Frac, i int) ([]int, api.Errno) {
	c, e := closureIf(p.has(i), p, s)
	if e != api.OK {
		return nil, e
	}
	first := p.tightRules(s, &c)
	var l []int
	for i != 0 {
		l = append(l, first[i])
		i = p.rule(first[i]).B
	}
	return l, api.OK
}

// tightRules returns for each unknown but 0 the number of a tight rule. It sets out from 0 and goes on from where it has been: so the rules lead to 0, and not round a loop with the weight 0.
func (p Pattern) tightRules(s api.Frac, c *closure) [api.MaxNames]int {
	var first [api.MaxNames]int
	reached := [api.MaxNames]bool{true}
	// Each round reaches one more unknown at least, until all are.
	for range p.N {
		for k, r := range p.all() {
			if reached[r.B] && !reached[r.A] && c.isTight(r, s) {
				first[r.A], reached[r.A] = k, true
			}
		}
	}
	return first
}

// Implied reports whether a rule follows from the other ones.
func Implied(p Pattern, s api.Frac, k int) (bool, api.Errno) {
	if _, e := closureIf(k >= 0 && k < len(p.Rules), p, s); e != api.OK {
		return false, e
	}
	return p.isImplied(s, k), api.OK
}

// isImplied needs a p in which no loop has a weight above 0; then the other rules have none either.
func (p Pattern) isImplied(s api.Frac, k int) bool {
	c, _ := closureOf(p.without(k), s)
	return c.implies(p.Rules[k], s)
}

func (p Pattern) without(k int) Pattern {
	return Pattern{p.N, slices.Delete(slices.Clone(p.Rules), k, k+1)}
}

// Core returns the rules that are left without implied ones.
func Core(p Pattern, s api.Frac) ([]int, api.Errno) {
	if _, e := closureIf(true, p, s); e != api.OK {
		return nil, e
	}
	var l []int
	// Only rules behind k have been removed, so it is still the index of its rule.
	for k := len(p.Rules) - 1; k >= 0; k-- {
		if p.isImplied(s, k) {
			p = p.without(k)
		} else {
			l = append(l, k)
		}
	}
	slices.Reverse(l)
	return l, api.OK
}

// Equal reports whether the same assignments satisfy both.
func Equal(p, q Pattern, s api.Frac) (bool, api.Errno) {
	c, e := closureIf(Valid(q), p, s)
	if e != api.OK {
		return false, e
	}
	d, e := closureOf(q, s)
	return e == api.OK && c == d, e
}
