package stick

import (
	"panache/api"
	"panache/span"
)

// lossValid reports whether a piercer is valid.
func lossValid(l api.StickLoss) bool {
	return span.Within(2, api.MaxStickOf, l.Of) && span.Within(0, l.Of, l.High)
}

// spared returns how many of n sticks, pierced one after another, surely stay whole. All others break if of each Of sticks, from the first on, the first ones do.
func spared(l api.StickLoss, n int) int {
	return n - n/l.Of*l.High - min(n%l.Of, l.High)
}

// seenValid reports whether all bytes are of sticks that were seen, or that nobody saw.
func seenValid(seen string) bool {
	for k := range len(seen) {
		if c := seen[k]; c != 'o' && c != 'x' && c != '?' {
			return false
		}
	}
	return true
}

// allows reports whether just those of n sticks can have broken for which broke holds.
func allows(l api.StickLoss, n int, broke func(stick int) bool) bool {
	many := 0 // of the last Of sticks
	for stick := range n {
		if stick >= l.Of && broke(stick-l.Of) {
			many--
		}
		if broke(stick) {
			many++
		}
		if many > l.High {
			return false
		}
	}
	return true
}
