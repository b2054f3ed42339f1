package skin

import "trank/api"

// Erode gives each cell the least grade around it.
func Erode(s []string, k int) ([]string, api.Errno) {
	return spread(s, k, func(a, b int) int { return min(a, b) })
}

// Dilate gives each cell the greatest grade around it. Beyond the edge the grade is 0 here too, which is never the greatest alone.
func Dilate(s []string, k int) ([]string, api.Errno) {
	return spread(s, k, func(a, b int) int { return max(a, b) })
}

// Open erodes and dilates.
func Open(s []string, k int) ([]string, api.Errno) {
	eroded, e := Erode(s, k)
	if e != api.OK {
		return nil, e
	}
	return Dilate(eroded, k)
}

// spread picks of the square around each cell: in each row first, and then in the columns of what this gives.
func spread(s []string, k int, pick func(a, b int) int) ([]string, api.Errno) {
	if !Valid(s) || k < 0 || k > api.MaxSide {
		return nil, api.ErrArg
	}
	return sweep(sweep(s, k, cell{1, 0}, pick), k, cell{0, 1}, pick), api.OK
}

// sweep gives each cell what pick makes of the grades up to k steps before and after it.
func sweep(s []string, k int, step cell, pick func(a, b int) int) []string {
	w, h := size(s)
	return draw(w, h, func(c cell) int {
		grade := gradeAt(s, c)
		before, after := c, c
		for range k {
			before, after = before.minus(step), after.plus(step)
			grade = pick(grade, pick(gradeAt(s, before), gradeAt(s, after)))
		}
		return grade
	})
}
