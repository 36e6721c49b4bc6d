package round

import (
	"slices"

	"panache/api"
	"panache/span"
)

// house is the place where each round begins and ends.
const house = 0

// task is a valid one. Sets of its outworkers have the bits of their places, so none has that of the house.
type task struct{ api.RoundTask }

// taskOf returns a task, or its error.
func taskOf(t api.RoundTask) (task, api.Errno) {
	if len(t.Places) > api.MaxRoundPlaces {
		return task{}, api.ErrLong
	}
	if e := minutesError(len(t.Places)+1, t.Minutes...); e != api.OK {
		return task{}, e
	}
	wrong := func(p api.RoundPlace) bool {
		return !span.Within(0, api.MaxRoundTime, p.Ready, p.Due) || !span.Within(0, api.MaxRoundMinutes, p.Stop) || !span.Within(0, api.MaxRoundDozens, p.Brought, p.Fetched)
	}
	if !span.Within(0, api.MaxRoundHolds, t.Holds) || !span.Within(0, t.Back, t.Leaves) || t.Back > api.MaxRoundTime || slices.ContainsFunc(t.Places, wrong) {
		return task{}, api.ErrRange
	}
	return task{t}, api.OK
}

// minutesError returns the error of the roads between so many places, from each of them.
func minutesError(places int, from ...[]api.Span) api.Errno {
	odd := func(roads []api.Span) bool { return len(roads) != places }
	if len(from) != places || slices.ContainsFunc(from, odd) {
		return api.ErrForm
	}
	for place := range places {
		if !span.Valid(0, api.MaxRoundMinutes, from[place]...) || from[place][place] != (api.Span{}) {
			return api.ErrArg
		}
	}
	return api.OK
}

// sets yields all sets of outworkers.
func (t task) sets(yield func(set int) bool) {
	for set := range 1 << len(t.Places) {
		if !yield(set << (house + 1)) {
			return
		}
	}
}

// all returns the set of all outworkers.
func (t task) all() int { return (1<<len(t.Places) - 1) << (house + 1) }

// place returns a place: the house is one at which nothing is done, and to which the carrier must come until Back.
func (t task) place(number int) api.RoundPlace {
	if number == house {
		return api.RoundPlace{Due: t.Back}
	}
	return t.Places[number-1]
}

// isRound reports whether numbers are outworkers, each at most once.
func (t task) isRound(order ...int) bool {
	known := 0
	for _, place := range order {
		if !span.Within(house+1, len(t.Places), place) || known&(1<<place) != 0 {
			return false
		}
		known |= 1 << place
	}
	return true
}
