package guard

import (
	"slices"

	"panache/api"
	"panache/span"
)

// By how many errors of the gauges more two guards may have been gauged to differ.
const (
	inSomeTruth = 2  // both errors can make them liker
	inAllTruths = -2 // both errors can make them less like
	oneIsKnown  = -1 // in all truths, and only one of them has an error
)

// stockError returns the error of a stock.
func stockError(s api.GuardStock, g api.GuardGauge) api.Errno {
	if len(s.Left) > api.MaxGuardSide || len(s.Right) > api.MaxGuardSide {
		return api.ErrLong
	}
	return guardsError(g, slices.Concat(s.Left, s.Right)...)
}

// guardsError returns the error of guards, or else that of the gauges.
func guardsError(g api.GuardGauge, guards ...api.Guard) api.Errno {
	odd := func(a api.Guard) bool {
		return len(a.Curve) != len(guards[0].Curve) || !span.Within(1, api.MaxGuardMarks, len(a.Curve))
	}
	wrong := func(a api.Guard) bool {
		return !span.Within(1, api.MaxGuardWeight, a.Weight) || !span.Within(0, api.MaxGuardCurve, a.Curve...)
	}
	switch {
	case slices.ContainsFunc(guards, odd):
		return api.ErrForm
	case slices.ContainsFunc(guards, wrong):
		return api.ErrArg
	case !span.Within(0, api.MaxGuardOff, g.Scales, g.Gauge) || !span.Within(0, api.MaxGuardWeight, g.Weight) || !span.Within(0, api.MaxGuardCurve, g.Curve):
		return api.ErrRange
	}
	return api.OK
}

// alike reports whether two guards were gauged to differ by no more than the guards of a pair may, and so many errors more. Both have as many marks.
func alike(a, b api.Guard, g api.GuardGauge, errors int) bool {
	for mark := range a.Curve {
		if apart(a.Curve[mark], b.Curve[mark]) > g.Curve+errors*g.Gauge {
			return false
		}
	}
	return apart(a.Weight, b.Weight) <= g.Weight+errors*g.Scales
}

// allAlike reports whether each two of some guards are surely alike.
func allAlike(g api.GuardGauge, guards ...api.Guard) bool {
	for k, a := range guards {
		other := func(b api.Guard) bool { return !alike(a, b, g, inAllTruths) }
		if slices.ContainsFunc(guards[k+1:], other) {
			return false
		}
	}
	return true
}

func apart(a, b int) int { return max(a-b, b-a) }
