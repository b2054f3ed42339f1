package pair

import (
	"slices"

	"trank/api"
)

// full is what a pair is worth that costs nothing, and the greatest price. A pair more is worth more than all costs of a pairing together.
const full = 1000000000

// offer has a price for each glove of a table.
type offer struct {
	*table
	a, b []int
}

// over is how much the prices of an allowed pair are above its worth.
func (o *offer) over(i, j int) int { return o.a[i] + o.b[j] + o.cost[i][j] - full }

// isTight reports whether a pair may be part of a cheapest pairing, if the prices are the lowest. There is a right glove more for each left glove, and the other way round: to be alone, as only a glove of price 0 may be, is to be paired with one of these. Those of them that are left over are paired with each other.
func (o *offer) isTight(i, j int) bool {
	switch {
	case i < o.left && j < o.right:
		return o.allows(i, j) && o.over(i, j) == 0
	case i < o.left:
		return o.a[i] == 0
	case j < o.right:
		return o.b[j] == 0
	default:
		return true
	}
}

// lowest returns prices that are a proof, with a sum that is the worth of a pairing: of each of its pairs the two prices are the worth, and all other gloves have the price 0.
func (t *table) lowest() *offer {
	o := &offer{table: t, a: slices.Repeat([]int{full}, t.left), b: make([]int, t.right)}
	owner := loners(t.right + t.left)
	place := placer(owner, o.isTight)
	for i := range t.left {
		tried := make([]bool, len(owner))
		for !place(i, tried) {
			asked := []int{i}
			for j, isTried := range tried {
				if isTried {
					asked = append(asked, owner[j])
				}
			}
			o.shift(asked, tried)
			clear(tried)
		}
	}
	return o
}

// shift moves the prices from the left gloves that were asked to the right gloves that were tried, as far as they stay a proof: then there is one more to be tried.
func (o *offer) shift(asked []int, tried []bool) {
	step := full
	for _, i := range asked {
		step = min(step, o.a[i])
		for j := range o.b {
			if !tried[j] && o.allows(i, j) {
				step = min(step, o.over(i, j))
			}
		}
	}
	for _, i := range asked {
		o.a[i] -= step
	}
	for j := range o.b {
		if tried[j] {
			o.b[j] += step
		}
	}
}

// Cheapest returns the first of the cheapest pairings.
func Cheapest(l, r []Glove, u Rule) ([]int, api.Errno) {
	t, e := lay(l, r, u)
	if e != api.OK {
		return nil, e
	}
	o := t.lowest()
	size := t.left + t.right
	owner := largest(size, size, o.isTight)
	place := placer(owner, o.isTight)
	fixed := make([]bool, size)
	m := loners(t.left)
	for i := range m {
		// All others have partners: this one takes the first right glove with which they still have.
		owner[slices.Index(owner, i)] = alone
		place(i, slices.Clone(fixed))
		j := slices.Index(owner, i)
		fixed[j] = true
		if j < t.right {
			m[i] = j
		}
	}
	return m, api.OK
}

// Prices returns prices that prove that a pairing is cheapest.
func Prices(l, r []Glove, u Rule) ([]int, []int, api.Errno) {
	t, e := lay(l, r, u)
	if e != api.OK {
		return nil, nil, e
	}
	o := t.lowest()
	return o.a, o.b, api.OK
}

// Worth returns the sum of prices, and whether they are a proof.
func Worth(l, r []Glove, u Rule, a, b []int) (int, bool, api.Errno) {
	t, e := lay(l, r, u)
	if e != api.OK {
		return 0, false, e
	}
	if len(a) != t.left || len(b) != t.right {
		return 0, false, api.ErrSize
	}
	sum := 0
	for _, x := range slices.Concat(a, b) {
		if x < 0 || x > full {
			return 0, false, api.ErrArg
		}
		sum += x
	}
	o := &offer{table: t, a: a, b: b}
	for i := range a {
		for j := range b {
			if t.allows(i, j) && o.over(i, j) < 0 {
				return 0, false, api.OK
			}
		}
	}
	return sum, true, api.OK
}
