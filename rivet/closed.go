package rivet

import (
	"slices"

	"panache/api"
	"panache/span"
)

// sticksError returns the error of the sticks of a closed fan.
func sticksError(l []api.RivetStick) api.Errno {
	if len(l) > api.MaxRivetSticks {
		return api.ErrLong
	}
	wrong := func(s api.RivetStick) bool {
		return !span.Valid(1, api.MaxRivetWeight, s.Weight) || !span.Valid(1, api.MaxRivetThick, s.Thick) || !span.Within(0, api.MaxRivetFar, s.Place)
	}
	if slices.ContainsFunc(l, wrong) {
		return api.ErrArg
	}
	return api.OK
}

func weightOf(s api.RivetStick) api.Span { return s.Weight }

func thickOf(s api.RivetStick) api.Span { return s.Thick }

// together returns the sum of a span of each stick.
func together(l []api.RivetStick, of func(s api.RivetStick) api.Span) api.Span {
	var all api.Span
	for _, s := range l {
		all = span.Sum(all, of(s))
	}
	return all
}

// balance returns where sticks balance at an end. There is one stick at least.
func (x end) balance(l []api.RivetStick) api.Ratio {
	// More weight draws the balance outward if it is behind it, and inward before it: so the last stick that is not behind it parts them.
	var candidates []api.Ratio
	for _, s := range l {
		candidates = append(candidates, x.balanceBehind(l, s.Place))
	}
	return x.pick(candidates)
}

// balanceBehind returns where sticks balance if those behind a place draw outward with more weight, and the others inward.
func (x end) balanceBehind(l []api.RivetStick, place int) api.Ratio {
	var r api.Ratio
	for _, s := range l {
		weight := x.falls(s.Weight)
		if s.Place > place {
			weight = x.rises(s.Weight)
		}
		r.Num += weight * s.Place
		r.Den += weight
	}
	return r
}
