package rivet

import (
	"slices"

	"panache/api"
	"panache/span"
)

const (
	round = 360 // degrees of a whole turn: a fan opens no farther

	// Half a turn has 180 degrees, or 355 / 113.
	degreesNum = 180 * 113
	degreesDen = 355
)

// fanError returns the error of a fan.
func fanError(f api.RivetFan) api.Errno {
	if !span.Valid(1, api.MaxRivetFar, f.Far, f.Near) || f.Near.High >= f.Far.Low {
		return api.ErrRange
	}
	if len(f.Gaps) > api.MaxRivetGaps {
		return api.ErrLong
	}
	wrong := func(g api.RivetGap) bool {
		return !span.Valid(0, api.MaxRivetLeaf, g.Leaf) || !span.Valid(0, api.MaxRivetFoot, g.Foot)
	}
	if slices.ContainsFunc(f.Gaps, wrong) {
		return api.ErrArg
	}
	return api.OK
}

// parts returns into how many parts an angle of 1 is cut at an end. Both distances are those of all gaps, so that each angle is a number of such parts.
func (x end) parts(f api.RivetFan) int { return x.falls(f.Far) * x.falls(f.Near) }

// angles returns the angles of all gaps at an end, in parts.
func (x end) angles(f api.RivetFan) []int {
	var angles []int
	for _, g := range f.Gaps {
		angles = append(angles, min(x.rises(g.Leaf)*x.falls(f.Near), x.rises(g.Foot)*x.falls(f.Far)))
	}
	return angles
}

// opening returns by which angle a fan opens at an end.
func (x end) opening(f api.RivetFan) api.Ratio {
	return api.Ratio{Num: sum(x.angles(f)...), Den: x.parts(f)}
}

// inDegrees returns an angle in degrees, rounded down.
func inDegrees(angle api.Ratio) int {
	return min(round, degreesNum*angle.Num/(degreesDen*angle.Den))
}

// surely and possibly return to how many degrees a fan opens in all truths, and in some truth.
func surely(f api.RivetFan) int { return inDegrees(leastEnd().opening(f)) }

func possibly(f api.RivetFan) int { return inDegrees(mostEnd().opening(f)) }

// stop returns what stops a gap of a fan.
func stop(f api.RivetFan, g api.RivetGap) api.RivetStop {
	// An arc divided by a distance is smaller than another one in all truths if it is at its most, and the other one at its least.
	smaller := func(arc, distance, otherArc, otherDistance api.Span) bool {
		return arc.High*otherDistance.High < otherArc.Low*distance.Low
	}
	switch {
	case smaller(g.Leaf, f.Far, g.Foot, f.Near):
		return api.RivetLeaf
	case smaller(g.Foot, f.Near, g.Leaf, f.Far):
		return api.RivetFoot
	}
	return api.RivetOpen
}

// widened returns a fan with a gap whose Leaf is wider.
func widened(f api.RivetFan, gap, more int) api.RivetFan {
	f.Gaps = slices.Clone(f.Gaps)
	f.Gaps[gap].Leaf.Low += more
	f.Gaps[gap].Leaf.High += more
	return f
}

// repeated returns a fan whose gaps are so many like its first one.
func repeated(f api.RivetFan, gaps int) api.RivetFan {
	f.Gaps = slices.Repeat(f.Gaps[:1], gaps)
	return f
}

// pleated returns a fan with an arc as the Leaf of all gaps.
func pleated(f api.RivetFan, arc int) api.RivetFan {
	f.Gaps = slices.Clone(f.Gaps)
	for k := range f.Gaps {
		f.Gaps[k].Leaf = api.Span{Low: arc, High: arc}
	}
	return f
}

// fewestWrong returns the fewest gaps, one at least, without which a fan with gaps does not surely open to more than some degrees: of several such lists the smallest one.
func fewestWrong(f api.RivetFan, degrees int) []int {
	x := leastEnd()
	angles := x.angles(f)
	all, parts := sum(angles...), x.parts(f)
	enough := func(without int) bool {
		return inDegrees(api.Ratio{Num: all - without, Den: parts}) <= degrees
	}
	many := 1
	for !enough(sum(greatest(angles, many)...)) {
		many++
	}
	var gaps []int
	without := 0
	for k, a := range angles {
		left := many - len(gaps)
		if left == 0 {
			break
		}
		// A gap belongs to the smallest list if the greatest ones behind it make up what is missing then.
		if enough(sum(without, a, sum(greatest(angles[k+1:], left-1)...))) {
			gaps = append(gaps, k)
			without += a
		}
	}
	return gaps
}

// greatest returns so many of the greatest numbers of a list, or all if it has fewer.
func greatest(l []int, many int) []int {
	sorted := slices.Sorted(slices.Values(l))
	return sorted[max(0, len(sorted)-many):]
}
