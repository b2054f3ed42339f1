package cut

import (
	"cmp"
	"slices"

	"trank/api"
)

const (
	maxBar    = 2000
	maxStrips = 14
)

// Fill returns the most worthy strips of a bar.
func Fill(n int, lengths, worths []int) (int, []int, api.Errno) {
	if n < 0 || n > maxBar || len(lengths) != len(worths) || len(lengths) > api.MaxKinds || !areUpTo(lengths, maxBar) || !areUpTo(worths, maxWorth) {
		return 0, nil, api.ErrArg
	}
	// most[i][c] is the greatest worth that the lengths from i on have in a bar of c.
	most := make([][]int, len(lengths)+1)
	most[len(lengths)] = make([]int, n+1)
	for i := len(lengths) - 1; i >= 0; i-- {
		most[i] = withLength(most[i+1], lengths[i], worths[i])
	}
	counts := make([]int, len(lengths))
	left := n
	for i, length := range lengths {
		for left >= length && most[i][left] == most[i][left-length]+worths[i] {
			left -= length
			counts[i]++
		}
	}
	return most[0][n], counts, api.OK
}

func areUpTo(l []int, most int) bool {
	for _, x := range l {
		if x < 1 || x > most {
			return false
		}
	}
	return true
}

// withLength improves the worths of bars by any number of strips of one more length.
func withLength(without []int, length, worth int) []int {
	most := slices.Clone(without)
	for c := length; c < len(most); c++ {
		most[c] = max(most[c], most[c-length]+worth)
	}
	return most
}

// areStrips reports whether n is the length of a bar and the strips can be cut from such bars.
func areStrips(n int, strips []int) bool {
	return n >= 1 && n <= maxBar && len(strips) <= maxStrips && areUpTo(strips, n)
}

// Fewest returns the least number of bars.
func Fewest(n int, strips []int) (int, api.Errno) {
	if !areStrips(n, strips) {
		return 0, api.ErrArg
	}
	ends := leastEnds(n, strips)
	return barsFor(n, ends[len(ends)-1]), api.OK
}

// barsFor is the least number of bars that have this length together.
func barsFor(n, length int) int { return (length + n - 1) / n }

// leastEnds lays the bars end to end, and the strips one after another, those that do not go into the rest of a bar from the start of the next one on. For each set of strips, as the bits of its index, it returns the least place where the last strip ends, of all orders of the strips: an order that goes through the bars of any packing needs no more bars than it.
func leastEnds(n int, strips []int) []int {
	ends := make([]int, 1<<len(strips))
	for set := 1; set < len(ends); set++ {
		ends[set] = n * maxStrips
		for i, length := range strips {
			if set>>i&1 == 1 {
				ends[set] = min(ends[set], endAfter(n, ends[set^1<<i], length))
			}
		}
	}
	return ends
}

// endAfter is where a strip ends that is laid from a place on.
func endAfter(n, place, length int) int {
	if rest := n - place%n; length > rest {
		place += rest
	}
	return place + length
}

// Bins returns a bar for each strip, with the least number of bars.
func Bins(n int, strips []int) ([]int, api.Errno) {
	if !areStrips(n, strips) {
		return nil, api.ErrArg
	}
	ends := leastEnds(n, strips)
	bins := make([]int, len(strips))
	for set := len(ends) - 1; set != 0; {
		i := lastOf(set, n, strips, ends)
		bins[i] = barsFor(n, ends[set]) - 1
		set ^= 1 << i
	}
	return bins, api.OK
}

// lastOf is the first strip of a set that may be the last one laid where the set ends at the least place.
func lastOf(set, n int, strips, ends []int) int {
	i := 0
	for set>>i&1 == 0 || endAfter(n, ends[set^1<<i], strips[i]) != ends[set] {
		i++
	}
	return i
}

// FirstFit returns a bar for each strip, the longest ones first.
func FirstFit(n int, strips []int) ([]int, api.Errno) {
	if !areStrips(n, strips) {
		return nil, api.ErrArg
	}
	order := make([]int, len(strips))
	for i := range order {
		order[i] = i
	}
	slices.SortStableFunc(order, func(i, j int) int { return cmp.Compare(strips[j], strips[i]) })
	bins := make([]int, len(strips))
	var left []int
	for _, i := range order {
		bar := slices.IndexFunc(left, func(rest int) bool { return rest >= strips[i] })
		if bar < 0 {
			bar = len(left)
			left = append(left, n)
		}
		bins[i] = bar
		left[bar] -= strips[i]
	}
	return bins, api.OK
}

// Floor returns a lower bound of the number of bars.
func Floor(n int, strips []int) (int, api.Errno) {
	if !areStrips(n, strips) {
		return 0, api.ErrArg
	}
	most := 0
	for t := range n/2 + 1 {
		most = max(most, floorAt(n, strips, t))
	}
	return most, api.OK
}

// floorAt counts the bars that the strips need which are not shorter than t: of those longer than half a bar each needs a bar of its own, and the others have what is left of these bars, if they go there at all.
func floorAt(n int, strips []int, t int) int {
	bars, left, others := 0, 0, 0
	for _, length := range strips {
		switch {
		case length > n-t:
			bars++
		case 2*length > n:
			bars++
			left += n - length
		case length >= t:
			others += length
		}
	}
	return bars + barsFor(n, max(0, others-left))
}
