package twin

import (
	"math"
	"slices"

	"panache/api"
	"panache/span"
)

// benchOfFamily returns the bench of a gauge and fans, or their error, or ErrTwice if a list is no family of these fans.
func benchOfFamily(g api.TwinGauge, fans []api.TwinFan, f family) (bench, api.Errno) {
	b, e := benchOf(g, fans...)
	if e == api.OK && !f.valid(len(fans)) {
		return bench{}, api.ErrTwice
	}
	return b, e
}

// near returns what a measure of a fan truly can be.
func (b bench) near(measure, fan int) api.Span {
	n, off := b.fans[fan].Measures[measure], b.Off[measure]
	return api.Span{Low: n - off, High: n + off}
}

// can returns what a measure of each fan truly can be if a family is right, and if that of a set of fans was taken wrong. If the family cannot be right, some of the spans have no number.
func (b bench) can(measure int, f family, wrong int) []api.Span {
	var can []api.Span
	for fan := range len(b.fans) {
		s := b.near(measure, fan)
		if wrong&(1<<fan) != 0 {
			// No family leads from one fan to another one that is farther away.
			s = api.Span{Low: -api.MaxTwinLong, High: 2 * api.MaxTwinLong}
		}
		can = append(can, s)
	}
	f.narrow(can, b.Copy[measure])
	return can
}

// rightIn reports whether a measure allows a family in some truth, if that of a set of fans was taken wrong.
func (b bench) rightIn(measure int, f family, wrong int) bool {
	return span.Valid(math.MinInt, math.MaxInt, b.can(measure, f, wrong)...)
}

// right reports whether a family is right in some truth.
func (b bench) right(f family) bool {
	for measure := range b.measures() {
		if !b.rightIn(measure, f, 0) {
			return false
		}
	}
	return true
}

// truth returns what each measure of each fan truly is in the truths in which a family is right. There is one at least.
func (b bench) truth(f family) [][]api.Span {
	truth := make([][]api.Span, len(b.fans))
	for measure := range b.measures() {
		for fan, s := range b.can(measure, f, 0) {
			truth[fan] = append(truth[fan], s)
		}
	}
	return truth
}

// families returns the families that can be, the smallest one first.
func (b bench) families() []family {
	var kept []family
	fewest := len(b.fans)
	for f := range allFamilies(len(b.fans)) {
		many := f.originals()
		if many > fewest || !b.right(f) {
			continue
		}
		if many < fewest {
			kept, fewest = nil, many
		}
		kept = append(kept, slices.Clone(f))
	}
	return kept
}

// originals returns the fans that are originals in all families that can be, and those that are in some.
func (b bench) originals() (surely, possibly []int) {
	all := b.families()
	for fan := range len(b.fans) {
		isCopy := func(f family) bool { return f[fan] != original }
		isOriginal := func(f family) bool { return f[fan] == original }
		if !slices.ContainsFunc(all, isCopy) {
			surely = append(surely, fan)
		}
		if slices.ContainsFunc(all, isOriginal) {
			possibly = append(possibly, fan)
		}
	}
	return surely, possibly
}

// look returns the measure that leaves the fewest families that can be if it is taken anew, and how many, or ErrNone if each measure can leave all of them.
func (b bench) look() (best api.TwinSlip, left int, e api.Errno) {
	all := b.families()
	left = len(all)
	for measure := range b.measures() {
		for fan := range len(b.fans) {
			if n := b.left(all, measure, fan); n < left {
				best, left = api.TwinSlip{Measure: measure, Fan: fan}, n
			}
		}
	}
	if left == len(all) {
		return api.TwinSlip{}, 0, api.ErrNone
	}
	return best, left, api.OK
}

// left returns how many of some families, each right in some truth, are so at most when a measure of a fan is known.
func (b bench) left(all []family, measure, fan int) int {
	// Each integer from the least to the greatest that the measure is in truths in which a family is right is found in one of them, as no family has a circle.
	var can []api.Span
	for _, f := range all {
		can = append(can, b.can(measure, f, 0)[fan])
	}
	most, found := 0, b.near(measure, fan)
	for n := found.Low; n <= found.High; n++ {
		many := 0
		for _, s := range can {
			if span.Within(s.Low, s.High, n) {
				many++
			}
		}
		most = max(most, many)
	}
	return most
}
