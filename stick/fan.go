package stick

import (
	"cmp"
	"slices"

	"panache/api"
	"panache/span"
)

// cutsError returns the error of sticks that are known, or else that of the fans that are made of them.
func cutsError(cuts []api.StickCut, f api.StickFan) api.Errno {
	if len(cuts) > api.MaxStickCuts {
		return api.ErrLong
	}
	wrong := func(c api.StickCut) bool {
		return !span.Within(0, api.MaxStickTeeth-1, c.Tooth) || !span.Within(1, api.MaxStickPlaces, c.Place) || !span.Within(1, api.MaxStickThick, c.Thick)
	}
	if slices.ContainsFunc(cuts, wrong) {
		return api.ErrArg
	}
	for k, c := range cuts {
		same := func(d api.StickCut) bool { return c.Tooth == d.Tooth && c.Place == d.Place }
		if slices.ContainsFunc(cuts[:k], same) {
			return api.ErrTwice
		}
	}
	if !span.Within(2, api.MaxStickCount, f.Count) || !span.Within(0, 100, f.Off) || !span.Within(0, api.MaxStickThick, f.Spread) {
		return api.ErrRange
	}
	return api.OK
}

// fansOf returns the most fans of the sticks of a tooth.
func fansOf(cuts []api.StickCut, f api.StickFan, tooth int) [][]int {
	var sticks []int
	for k, c := range cuts {
		if c.Tooth == tooth {
			sticks = append(sticks, k)
		}
	}
	by := func(number func(c api.StickCut) int) func(k, l int) int {
		return func(k, l int) int { return cmp.Compare(number(cuts[k]), number(cuts[l])) }
	}
	slices.SortStableFunc(sticks, by(thick))
	var fans [][]int
	for len(sticks) >= f.Count {
		// If the thinnest stick can be in a fan, it is best in one with those next to it: the sticks that are left are as many, and no thinner.
		if cuts[sticks[f.Count-1]].Thick-cuts[sticks[0]].Thick+2*f.Off > f.Spread {
			sticks = sticks[1:]
			continue
		}
		fan := slices.Clone(sticks[:f.Count])
		slices.SortFunc(fan, by(place))
		fans = append(fans, fan)
		sticks = sticks[f.Count:]
	}
	return fans
}

func thick(c api.StickCut) int { return c.Thick }

func place(c api.StickCut) int { return c.Place }
