package cut_test

import (
	"fmt"
	"math/rand/v2"
	"slices"
	"testing"

	"trank/api"
	"trank/cut"
)

// filling is a way to fill a bar.
type filling struct {
	worth  int
	counts []int
}

// compare puts those before others that are worth less, or have less of the first length that they have not in common.
func compare(a, b filling) int {
	if a.worth != b.worth {
		return a.worth - b.worth
	}
	return slices.Compare(a.counts, b.counts)
}

// fillAll goes through all ways.
func fillAll(n int, lengths, worths []int) filling {
	best := filling{0, make([]int, len(lengths))}
	counts := make([]int, len(lengths))
	var try func(i, left, worth int)
	try = func(i, left, worth int) {
		if i == len(lengths) {
			if x := (filling{worth, counts}); compare(x, best) > 0 {
				best = filling{worth, slices.Clone(counts)}
			}
			return
		}
		for counts[i] = 0; counts[i]*lengths[i] <= left; counts[i]++ {
			try(i+1, left-counts[i]*lengths[i], worth+counts[i]*worths[i])
		}
	}
	try(0, n, 0)
	return best
}

// fillUp finds the best way of each length of bar from those of the shorter ones: the order of ways does not change when both get one more strip.
func fillUp(n int, lengths, worths []int) filling {
	best := []filling{{0, make([]int, len(lengths))}}
	for c := 1; c <= n; c++ {
		most := best[c-1]
		for i, length := range lengths {
			if length > c {
				continue
			}
			x := filling{best[c-length].worth + worths[i], slices.Clone(best[c-length].counts)}
			x.counts[i]++
			if compare(x, most) > 0 {
				most = x
			}
		}
		best = append(best, most)
	}
	return best[n]
}

func checkFill(t *testing.T, n int, lengths, worths []int, want filling) {
	t.Helper()
	same(t, fmt.Sprint("Fill ", n, lengths, worths), show2(cut.Fill(n, lengths, worths)), ok2(want.worth, want.counts))
}

func numbers(d *rand.Rand, count, most int) []int {
	var l []int
	for range count {
		l = append(l, 1+d.IntN(most))
	}
	return l
}

// P5.6: of all ways.
func TestFillOfAllWays(t *testing.T) {
	d := dice()
	several := 0
	for range 4000 {
		kinds := d.IntN(5)
		n, lengths, worths := d.IntN(25), numbers(d, kinds, 9), numbers(d, kinds, 6)
		want := fillAll(n, lengths, worths)
		checkFill(t, n, lengths, worths, want)
		if fmt.Sprint(fillUp(n, lengths, worths)) != fmt.Sprint(want) {
			t.Error(n, lengths, worths, want)
		}
		// Worths of which many ways have the same sum.
		want = fillAll(n, lengths, lengths)
		checkFill(t, n, lengths, lengths, want)
		if want.worth > 0 && fmt.Sprint(fillUp(n, lengths, lengths)) == fmt.Sprint(want) {
			several++
		}
	}
	if several < 1000 {
		t.Error(several)
	}
}

// P5.6
func TestFillOfLongBars(t *testing.T) {
	d := dice()
	for i := range 60 {
		n, kinds := 2000-d.IntN(200)*(i%2), between(d, 1, 12)
		lengths, worths := numbers(d, kinds, []int{10, 100, 2000}[d.IntN(3)]), numbers(d, kinds, []int{3, 1000, 1000000}[d.IntN(3)])
		checkFill(t, n, lengths, worths, fillUp(n, lengths, worths))
		checkFill(t, n, lengths, lengths, fillUp(n, lengths, lengths))
	}
}

// P5.6
func TestFillOf(t *testing.T) {
	twelve := slices.Repeat([]int{1}, 12)
	most := slices.Repeat([]int{1000000}, 12)
	first := append([]int{2000}, make([]int, 11)...)
	for _, c := range []struct {
		n               int
		lengths, worths []int
		want            filling
	}{
		{0, nil, nil, filling{0, nil}}, {2000, nil, nil, filling{0, nil}}, {0, []int{1}, []int{1}, filling{0, []int{0}}},
		{1, []int{2}, []int{5}, filling{0, []int{0}}}, {5, []int{2000, 5, 6}, []int{1000000, 1, 9}, filling{1, []int{0, 1, 0}}},
		{2000, twelve, most, filling{2000000000, first}}, {2000, []int{2000}, []int{1}, filling{1, []int{1}}}, {1999, []int{2000}, []int{1}, filling{0, []int{0}}},
		// The most of the first length, and of these of the second one; not the fewest strips, nor the shortest ones.
		{6, []int{2, 3}, []int{2, 3}, filling{6, []int{3, 0}}}, {6, []int{3, 2}, []int{3, 2}, filling{6, []int{2, 0}}}, {6, []int{6, 1}, []int{6, 1}, filling{6, []int{1, 0}}}, {6, []int{1, 6}, []int{1, 6}, filling{6, []int{6, 0}}},
		{7, []int{4, 2, 3, 1}, []int{4, 2, 3, 1}, filling{7, []int{1, 1, 0, 1}}}, {9, []int{5, 4, 2, 3}, []int{1, 1, 1, 1}, filling{4, []int{0, 0, 4, 0}}}, {9, []int{5, 4, 3, 2}, []int{1, 1, 1, 1}, filling{4, []int{0, 0, 1, 3}}},
		// What is worth more comes first, whatever it leaves.
		{10, []int{5, 9}, []int{5, 11}, filling{11, []int{0, 1}}}, {10, []int{9, 5}, []int{9, 5}, filling{10, []int{0, 2}}},
	} {
		checkFill(t, c.n, c.lengths, c.worths, c.want)
	}
}

// P5.6: ErrArg.
func TestInvalidFill(t *testing.T) {
	bad := func(n int, lengths, worths []int) {
		t.Helper()
		same(t, fmt.Sprint("Fill ", n, lengths, worths), show2(cut.Fill(n, lengths, worths)), fails(api.ErrArg))
	}
	for _, n := range []int{-1, 2001, biggest, -biggest - 1} {
		bad(n, []int{1}, []int{1})
		bad(n, nil, nil)
	}
	bad(5, []int{1}, nil)
	bad(5, nil, []int{1})
	bad(5, []int{1, 2}, []int{1})
	bad(5, []int{1}, []int{1, 2})
	for _, length := range []int{0, -1, 2001, biggest, -biggest - 1} {
		bad(5, []int{length}, []int{1})
		bad(5, []int{1, length}, []int{1, 1})
		bad(5, []int{length, 1}, []int{1, 1})
	}
	for _, worth := range []int{0, -1, 1000001, biggest, -biggest - 1} {
		bad(5, []int{1}, []int{worth})
		bad(5, []int{1, 2}, []int{1, worth})
		bad(5, []int{1, 2}, []int{worth, 1})
	}
	thirteen := slices.Repeat([]int{1}, 13)
	bad(5, thirteen, thirteen)
	bad(5, thirteen, thirteen[:12])
	bad(5, thirteen[:12], thirteen)
	bad(0, make([]int, 12), thirteen[:12])
	bad(0, thirteen[:12], make([]int, 12))
}

// fewest goes through all sets of strips that go into a bar with the first strip that is left.
func fewest(n int, strips []int) int {
	sums, best := make([]int, 1<<len(strips)), make([]int, 1<<len(strips))
	for set := 1; set < len(sums); set++ {
		first := 0
		for set>>first&1 == 0 {
			first++
		}
		sums[set] = strips[first] + sums[set&(set-1)]
		best[set] = len(strips)
		rest := set & (set - 1)
		for part := rest; ; part = (part - 1) & rest {
			if sums[part]+strips[first] <= n {
				best[set] = min(best[set], 1+best[rest&^part])
			}
			if part == 0 {
				break
			}
		}
	}
	return best[len(best)-1]
}

// fewestOfAll goes through all ways to number the bars.
func fewestOfAll(n int, strips []int) int {
	best := len(strips)
	left := make([]int, len(strips))
	var try func(i, bars int)
	try = func(i, bars int) {
		if i == len(strips) {
			best = min(best, bars)
			return
		}
		for bar := range bars + 1 {
			if bar == bars {
				left[bar] = n
			}
			if left[bar] >= strips[i] {
				left[bar] -= strips[i]
				try(i+1, max(bars, bar+1))
				left[bar] += strips[i]
			}
		}
	}
	try(0, 0)
	return best
}

// firstFit takes the greatest of the strips that are left, again and again.
func firstFit(n int, strips []int) []int {
	bins := slices.Repeat([]int{-1}, len(strips))
	for range strips {
		next := -1
		for i, length := range strips {
			if bins[i] < 0 && (next < 0 || length > strips[next]) {
				next = i
			}
		}
		for bar := 0; bins[next] < 0; bar++ {
			used := strips[next]
			for i := range strips {
				if bins[i] == bar {
					used += strips[i]
				}
			}
			if used <= n {
				bins[next] = bar
			}
		}
	}
	return bins
}

// lowerBound is as the chapter says it.
func lowerBound(n int, strips []int) int {
	best := 0
	for t := 0; t <= n/2; t++ {
		a, b, c, m, sumB := 0, 0, 0, 0, 0
		for _, length := range strips {
			if length > n-t {
				a++
			}
			if 2*length > n && length <= n-t {
				b++
				sumB += length
			}
			if length >= t && 2*length <= n {
				m += length
			}
		}
		f := b*n - sumB
		for m > f && c*n < m-f {
			c++
		}
		best = max(best, a+b+c)
	}
	return best
}

// bars is how many bars the strips are cut from, or -1 if a bar is exceeded.
func bars(n int, strips, bins []int) int {
	used := map[int]int{}
	for i, bar := range bins {
		used[bar] += strips[i]
		if bar < 0 || bar >= len(strips) || used[bar] > n {
			return -1
		}
	}
	return len(used)
}

// checkBars compares with the terms, and checks P5.13.
func checkBars(t *testing.T, n int, strips []int, want int) {
	t.Helper()
	what := fmt.Sprint(n, strips)
	same(t, "Fewest "+what, show(cut.Fewest(n, strips)), ok(want))
	bins := must[[]int](t)(cut.Bins(n, strips))
	if len(bins) != len(strips) || bars(n, strips, bins) < 0 || len(bins) > 0 && slices.Max(bins) >= want {
		t.Error(what, bins, want)
	}
	fit := firstFit(n, strips)
	same(t, "FirstFit "+what, show(cut.FirstFit(n, strips)), ok(fit))
	floor := lowerBound(n, strips)
	same(t, "Floor "+what, show(cut.Floor(n, strips)), ok(floor))
	if count := bars(n, strips, fit); floor > want || want > count || 9*count > 11*want+6 {
		t.Error(what, floor, want, count)
	}
}

// someStrips are of the kinds that are hard to pack: close to a half, a third or a quarter of a bar, or cut from full bars.
func someStrips(d *rand.Rand, count int) (int, []int) {
	n := []int{1 + d.IntN(12), 1 + d.IntN(60), 1 + d.IntN(2000), 2000}[d.IntN(4)]
	var strips []int
	if d.IntN(3) == 0 {
		for len(strips) < count {
			left := n
			for left > 0 && len(strips) < count {
				length := min(left, 1+d.IntN(n/2+1))
				strips = append(strips, length)
				left -= length
			}
		}
		d.Shuffle(count, func(i, j int) { strips[i], strips[j] = strips[j], strips[i] })
		return n, strips
	}
	low := n / (1 + d.IntN(8))
	high := min(n, low+d.IntN(n))
	for range count {
		strips = append(strips, max(1, between(d, min(low, high), high)))
	}
	return n, strips
}

// P5.7, P5.8, P5.13: of all ways.
func TestBarsOfAllWays(t *testing.T) {
	d := dice()
	for range 4000 {
		n, strips := someStrips(d, d.IntN(8))
		want := fewestOfAll(n, strips)
		checkBars(t, n, strips, want)
		if fewest(n, strips) != want {
			t.Error(n, strips, want)
		}
	}
	for n := 1; n <= 4; n++ {
		for i := range n * n * n * n {
			strips := []int{1 + i%n, 1 + i/n%n, 1 + i/n/n%n, 1 + i/n/n/n}
			for count := range 5 {
				checkBars(t, n, strips[:count], fewestOfAll(n, strips[:count]))
			}
		}
	}
}

// P5.7, P5.8, P5.13: up to 14 strips. The three functions differ often enough.
func TestManyStrips(t *testing.T) {
	d := dice()
	low, high := 0, 0
	for range 500 {
		n, strips := someStrips(d, between(d, 9, 14))
		want := fewest(n, strips)
		checkBars(t, n, strips, want)
		if lowerBound(n, strips) < want {
			low++
		}
		if bars(n, strips, firstFit(n, strips)) > want {
			high++
		}
	}
	if low < 5 || high < 5 {
		t.Error(low, high)
	}
}

// P5.7, P5.8
func TestBarsOf(t *testing.T) {
	for _, c := range []struct {
		n             int
		strips        []int
		floor, fewest int
		fit           []int
	}{
		{1, nil, 0, 0, nil}, {2000, nil, 0, 0, nil}, {1, []int{1}, 1, 1, []int{0}}, {1, []int{1, 1, 1}, 3, 3, []int{0, 1, 2}}, {2000, []int{2000, 2000}, 2, 2, []int{0, 1}},
		{10, []int{6, 5, 5, 4}, 2, 2, []int{0, 1, 1, 0}}, {10, []int{5, 6, 5, 6}, 3, 3, []int{2, 0, 2, 1}}, {9, []int{5, 5, 5}, 3, 3, []int{0, 1, 2}},
		// More than the sum of the lengths asks for.
		{10, []int{4, 4, 4, 4, 4}, 2, 3, []int{0, 0, 1, 1, 2}}, {100, []int{51, 27, 27, 27, 27, 26, 23, 23, 23, 23, 23}, 3, 3, []int{0, 0, 1, 1, 1, 2, 2, 2, 2, 3, 3}},
		// More than needed: the first fit puts 4 and 4 together.
		{12, []int{4, 4, 5, 5, 3, 3}, 2, 2, []int{1, 1, 0, 0, 1, 2}},
		{14, slices.Repeat([]int{1}, 14), 1, 1, make([]int, 14)}, {13, slices.Repeat([]int{1}, 14), 2, 2, append(make([]int, 13), 1)},
		{2000, slices.Repeat([]int{2000}, 14), 14, 14, []int{0, 1, 2, 3, 4, 5, 6, 7, 8, 9, 10, 11, 12, 13}}, {2000, slices.Repeat([]int{1001}, 14), 14, 14, []int{0, 1, 2, 3, 4, 5, 6, 7, 8, 9, 10, 11, 12, 13}},
		{2000, slices.Repeat([]int{1000}, 14), 7, 7, []int{0, 0, 1, 1, 2, 2, 3, 3, 4, 4, 5, 5, 6, 6}},
	} {
		checkBars(t, c.n, c.strips, c.fewest)
		same(t, fmt.Sprint("Floor ", c.n, c.strips), show(cut.Floor(c.n, c.strips)), ok(c.floor))
		same(t, fmt.Sprint("FirstFit ", c.n, c.strips), show(cut.FirstFit(c.n, c.strips)), ok(c.fit))
	}
}

// barCalls are all functions of a bar and strips.
func barCalls(n int, strips []int) []string {
	return []string{show(cut.Fewest(n, strips)), show(cut.Bins(n, strips)), show(cut.FirstFit(n, strips)), show(cut.Floor(n, strips))}
}

// P5.7, P5.8: ErrArg.
func TestInvalidStrips(t *testing.T) {
	bad := func(n int, strips []int) {
		t.Helper()
		for _, x := range barCalls(n, strips) {
			same(t, fmt.Sprint(n, strips), x, fails(api.ErrArg))
		}
	}
	for _, n := range []int{0, -1, 2001, biggest, -biggest - 1} {
		bad(n, nil)
		bad(n, []int{1})
		bad(n, []int{n})
	}
	for _, n := range []int{1, 10, 2000} {
		for _, length := range []int{0, -1, n + 1, biggest, -biggest - 1} {
			bad(n, []int{length})
			bad(n, []int{1, length})
			bad(n, []int{length, n})
			bad(n, append(slices.Repeat([]int{n}, 13), length))
		}
		bad(n, slices.Repeat([]int{1}, 15))
		bad(n, slices.Repeat([]int{1}, 100000))
	}
}
