package skin

import "slices"

const none = -1

// mostApart chooses as many lines as possible, of flat and of upright ones together, of which no two meet, and returns which upright ones are chosen. meets lists for each flat line the upright ones that it meets; lines of one kind do not meet.
//
// By König's theorem those are chosen that cannot be reached from the flat lines without a partner: from a flat line to the upright ones that it meets, and on to their partners. The flat lines on these ways are the other chosen ones.
func mostApart(meets [][]int, uprights int) []bool {
	partner := partners(meets, uprights)
	isApart := slices.Repeat([]bool{true}, uprights)
	var giveWay func(i int)
	giveWay = func(i int) {
		for _, j := range meets[i] {
			if isApart[j] {
				isApart[j] = false
				giveWay(partner[j])
			}
		}
	}
	for i := range meets {
		if !slices.Contains(partner, i) {
			giveWay(i)
		}
	}
	return isApart
}

// partners pairs as many lines as possible that meet, and returns the flat line of each upright one.
func partners(meets [][]int, uprights int) []int {
	partner := slices.Repeat([]int{none}, uprights)
	for i := range meets {
		tried := make([]bool, uprights)
		var place func(i int) bool
		place = func(i int) bool {
			for _, j := range meets[i] {
				if tried[j] {
					continue
				}
				tried[j] = true
				if partner[j] == none || place(partner[j]) {
					partner[j] = i
					return true
				}
			}
			return false
		}
		place(i)
	}
	return partner
}
