package curve

import (
	"slices"

	"trank/api"
	"trank/frac"
)

const maxMeasure = 1000000 // of Isotone

// run is a run of neighbours that share their mean.
type run struct{ sum, count int }

func (r run) mean() api.Frac {
	f, _ := frac.New(r.sum, r.count)
	return f
}

// Isotone returns the non-decreasing sequence that is nearest to l.
func Isotone(l []int) ([]api.Frac, api.Errno) {
	if len(l) > api.MaxPoints {
		return nil, api.ErrSize
	}
	if slices.ContainsFunc(l, func(n int) bool { return n < 0 || n > maxMeasure }) {
		return nil, api.ErrArg
	}
	var f []api.Frac
	for _, r := range risingRuns(l) {
		f = append(f, slices.Repeat([]api.Frac{r.mean()}, r.count)...)
	}
	return f, api.OK
}

// risingRuns pools neighbours until no mean is below the one before it.
func risingRuns(l []int) []run {
	var runs []run
	for _, n := range l {
		r := run{n, 1}
		for last := len(runs) - 1; last >= 0 && order(runs[last].mean(), r.mean()) > 0; last-- {
			r = run{runs[last].sum + r.sum, runs[last].count + r.count}
			runs = runs[:last]
		}
		runs = append(runs, r)
	}
	return runs
}
