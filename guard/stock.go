package guard

import (
	"slices"

	"panache/api"
)

// sure returns the table of the pairs whose guards are surely alike.
func sure(s api.GuardStock, g api.GuardGauge) table { return alikeBy(s, g, inAllTruths) }

// possible returns the table of the pairs whose guards are possibly alike.
func possible(s api.GuardStock, g api.GuardGauge) table { return alikeBy(s, g, inSomeTruth) }

// alikeBy returns the table of the pairs whose guards are alike by so many errors of the gauges more.
func alikeBy(s api.GuardStock, g api.GuardGauge, errors int) table {
	return tableOf(s, func(left, right int) bool { return alike(s.Left[left], s.Right[right], g, errors) })
}

// sureIfKnown returns the table of the pairs whose guards are surely alike if one left guard is just as it was gauged.
func sureIfKnown(s api.GuardStock, g api.GuardGauge, known int) table {
	return tableOf(s, func(left, right int) bool {
		errors := inAllTruths
		if left == known {
			errors = oneIsKnown
		}
		return alike(s.Left[left], s.Right[right], g, errors)
	})
}

// noWorse returns the table of the pairs whose weights were gauged to differ by so much at most.
func noWorse(s api.GuardStock, worst int) table {
	return tableOf(s, func(left, right int) bool {
		return apart(s.Left[left].Weight, s.Right[right].Weight) <= worst
	})
}

// leastWorst returns by how much the weights of some pair differ at least if all guards are paired. There are as many left ones as right ones.
func leastWorst(s api.GuardStock) int {
	worst := 0
	// If the heavier of two left guards is with the lighter of two right ones, the most unlike of them are no less unlike than if both changed partners: so the order of the weights is a best way.
	left, right := weights(s.Left), weights(s.Right)
	for k := range len(left) {
		worst = max(worst, apart(left[k], right[k]))
	}
	return worst
}

// weights returns the weights of guards, ascending.
func weights(guards []api.Guard) []int {
	var l []int
	for _, a := range guards {
		l = append(l, a.Weight)
	}
	slices.Sort(l)
	return l
}

// firstMost returns the first left guard of so many with which there are the most pairs, and how many; or ErrNone if there are never more than without.
func firstMost(lefts, without int, with func(left int) int) (first, most int, e api.Errno) {
	most = without
	for left := range lefts {
		if pairs := with(left); pairs > most {
			first, most = left, pairs
		}
	}
	if most == without {
		return 0, 0, api.ErrNone
	}
	return first, most, api.OK
}
