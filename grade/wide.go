package grade

import "math/bits"

// wide is a whole number of 128 bits, of which the upper half has the sign.
type wide struct {
	upper int
	lower uint64
}

// product needs a b that is not below 0. It corrects the upper half of an unsigned product, in which an a below 0 counts as 2^64 more.
func product(a, b int) wide {
	upper, lower := bits.Mul64(uint64(a), uint64(b))
	w := wide{int(upper), lower}
	if a < 0 {
		w.upper -= b
	}
	return w
}

func (w wide) isBelow(v wide) bool {
	return w.upper < v.upper || w.upper == v.upper && w.lower < v.lower
}
