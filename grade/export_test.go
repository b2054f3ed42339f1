package grade

import "trank/api"

// Worst is for the tests of package grade_test.
func Worst(p Pattern, s api.Frac) []int { return p.worst(s) }
