package round

import (
	"cmp"
	"iter"
	"slices"

	"panache/api"
	"panache/sets"
)

// rounds yields all rounds of a set of outworkers, that with the smallest list first. They are one list that changes.
func (t task) rounds(set int) iter.Seq[round] {
	return func(yield func(round) bool) {
		var order []int
		var give func(left int) bool
		give = func(left int) bool {
			if left == 0 {
				return yield(round{t, order})
			}
			for place := range sets.Each(left) {
				order = append(order, place)
				if !give(left &^ (1 << place)) {
					return false
				}
				order = order[:len(order)-1]
			}
			return true
		}
		give(set)
	}
}

// serves reports whether some round surely serves a set of outworkers, without the others.
func (t task) serves(set int) bool {
	for r := range t.rounds(set) {
		if r.serves() {
			return true
		}
	}
	return false
}

// best returns the round that surely serves all outworkers and is back soonest at the latest: of several the smallest list; or ErrState if there is none.
func (t task) best() ([]int, api.Errno) {
	var best []int
	least, found := 0, false
	for r := range t.rounds(t.all()) {
		if back := r.back().High; (!found || back < least) && r.serves() {
			best, least, found = slices.Clone(r.order), back, true
		}
	}
	if !found {
		return nil, api.ErrState
	}
	return best, api.OK
}

// most returns the most outworkers that some round surely serves: of several such lists the smallest one.
func (t task) most() []int {
	var most []int
	for set := range t.sets {
		l := sets.Members(set)
		if more := cmp.Compare(len(most), len(l)); cmp.Or(more, slices.Compare(l, most)) < 0 && t.serves(set) {
			most = l
		}
	}
	return most
}

// against returns the fewest outworkers that no round surely serves together: of several such lists the smallest one; or ErrNone if some round serves all.
func (t task) against() ([]int, api.Errno) {
	if t.serves(t.all()) {
		return nil, api.ErrNone
	}
	fewest, _ := sets.Fewest(len(t.Places)+1, func(set int) bool {
		return set&(1<<house) == 0 && !t.serves(set)
	})
	return fewest, api.OK
}

// days returns the day of each outworker, on as few days as can be: of several such lists the smallest one; or ErrState if there is none.
func (t task) days() ([]int, api.Errno) {
	served := make([]bool, t.all()+1)
	for set := range t.sets {
		served[set] = t.serves(set)
	}
	for many := range len(t.Places) + 1 {
		if l, found := daysOf(len(t.Places), many, func(set int) bool { return served[set] }); found {
			return l, api.OK
		}
	}
	return nil, api.ErrState
}

// daysOf returns the smallest list of the days of so many outworkers, on so many days at most, each of which can have its set of them.
func daysOf(places, many int, can func(set int) bool) (days []int, found bool) {
	on := make([]int, many) // the outworkers of each day
	var give func(place int) bool
	give = func(place int) bool {
		if place > places {
			return !slices.ContainsFunc(on, func(set int) bool { return !can(set) })
		}
		for day, before := range on {
			on[day], days = before|1<<place, append(days, day)
			if give(place + 1) {
				return true
			}
			on[day], days = before, days[:len(days)-1]
			if before == 0 {
				break // another day on which nobody is served would be the same
			}
		}
		return false
	}
	if !give(house + 1) {
		return nil, false
	}
	return days, true
}
