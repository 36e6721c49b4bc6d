package round_test

import (
	"cmp"
	"iter"
	"math/rand"
	"slices"

	"panache/api"
	"panache/round"
)

func to(low, high int) api.Span { return api.Span{Low: low, High: high} }

// at is the span of a number that is known.
func at(n int) api.Span { return to(n, n) }

func spans(l ...api.Span) []api.Span { return l }

// numbers returns its arguments.
func numbers(l ...int) []int { return l }

// place is an outworker.
func place(ready, due, stop, brought, fetched int) api.RoundPlace {
	return api.RoundPlace{Ready: ready, Due: due, Stop: stop, Brought: brought, Fetched: fetched}
}

// free is an outworker who has time, and nothing to bring or fetch.
func free() api.RoundPlace { return place(0, api.MaxRoundTime, 0, 0, 0) }

func places(l ...api.RoundPlace) []api.RoundPlace { return l }

// The task of the chapter's examples, changed.
func example(changes ...func(t *api.RoundTask)) api.RoundTask {
	t := api.RoundTask{
		Minutes: [][]api.Span{spans(at(0), to(10, 15), at(20)), spans(to(10, 15), at(0), to(5, 10)), spans(at(20), to(5, 10), at(0))},
		Places:  places(place(0, 60, 5, 3, 2), place(30, 40, 10, 1, 4)),
		Holds:   6, Leaves: 0, Back: 80,
	}
	for _, change := range changes {
		change(&t)
	}
	return t
}

// holding changes how much a cart holds.
func holding(dozens int) func(t *api.RoundTask) {
	return func(t *api.RoundTask) { t.Holds = dozens }
}

// leaving changes when a cart leaves, and must be back.
func leaving(leaves, back int) func(t *api.RoundTask) {
	return func(t *api.RoundTask) { t.Leaves, t.Back = leaves, back }
}

// having changes an outworker.
func having(number int, p api.RoundPlace) func(t *api.RoundTask) {
	return func(t *api.RoundTask) { t.Places[number-1] = p }
}

// taking changes a road.
func taking(from, dest int, minutes api.Span) func(t *api.RoundTask) {
	return func(t *api.RoundTask) { t.Minutes[from][dest] = minutes }
}

// even is a task in which all roads take as long, and the cart has room and time.
func even(minutes api.Span, l ...api.RoundPlace) api.RoundTask {
	t := api.RoundTask{Places: l, Holds: api.MaxRoundHolds, Back: api.MaxRoundTime}
	for from := range len(l) + 1 {
		row := slices.Repeat(spans(minutes), len(l)+1)
		row[from] = at(0)
		t.Minutes = append(t.Minutes, row)
	}
	return t
}

// with returns a task that is changed.
func with(t api.RoundTask, changes ...func(t *api.RoundTask)) api.RoundTask {
	t = copied(t)
	for _, change := range changes {
		change(&t)
	}
	return t
}

// copied returns a task with memory of its own.
func copied(t api.RoundTask) api.RoundTask {
	t.Places, t.Minutes = slices.Clone(t.Places), slices.Clone(t.Minutes)
	for k, row := range t.Minutes {
		t.Minutes[k] = slices.Clone(row)
	}
	return t
}

func between(r *rand.Rand, low, high int) int { return low + r.Intn(high-low+1) }

func oneOf[T any](r *rand.Rand, l ...T) T { return l[r.Intn(len(l))] }

// size says how large tasks are that are made at random: how many outworkers, how long roads are and how little that is known, how far times are, and how much is brought and fetched.
type size struct{ places, minutes, wide, time, dozens int }

// tiny are those whose truths can all be looked at.
var (
	tiny  = size{places: 3, minutes: 10, wide: 2, time: 70, dozens: 4}
	small = size{places: 4, minutes: 8, wide: 1, time: 60, dozens: 3}
	large = size{places: api.MaxRoundPlaces, minutes: 60, wide: 30, time: 700, dozens: 30}
)

// anyMinutes makes a road at random.
func anyMinutes(r *rand.Rand, z size) api.Span {
	low := oneOf(r, 0, between(r, 0, z.minutes), between(r, 0, z.minutes), 3*z.minutes)
	return to(low, low+between(r, 0, z.wide))
}

// anyTask makes a valid task at random.
func anyTask(r *rand.Rand, z size) api.RoundTask {
	var l []api.RoundPlace
	for range max(between(r, 0, z.places), between(r, 0, z.places)) {
		due := oneOf(r, z.time, z.time, between(r, 0, z.time))
		l = append(l, place(oneOf(r, 0, between(r, 0, z.time/2)), due, between(r, 0, z.minutes), between(r, 0, z.dozens), between(r, 0, z.dozens)))
	}
	t := even(at(0), l...)
	for from, row := range t.Minutes {
		for dest := range row {
			if dest != from {
				row[dest] = anyMinutes(r, z)
			}
		}
	}
	t.Holds = between(r, 0, z.dozens*(len(l)+1))
	t.Leaves = between(r, 0, z.time/6)
	t.Back = max(t.Leaves, oneOf(r, z.time, z.time, between(r, 0, z.time)))
	return t
}

// anyOrder makes a round at random.
func anyOrder(r *rand.Rand, t api.RoundTask) []int {
	var l []int
	for _, k := range r.Perm(len(t.Places))[:between(r, 0, len(t.Places))] {
		l = append(l, k+1)
	}
	return l
}

// sideOf returns both ends of the road of a number of a round.
func sideOf(order []int, number int) (from, dest int) {
	all := slices.Concat(numbers(0), order, numbers(0))
	return all[number], all[number+1]
}

// roadsOf returns how many roads a round has.
func roadsOf(order []int) int {
	if len(order) == 0 {
		return 0
	}
	return len(order) + 1
}

// truths yields for each truth how long the roads of a round take. It is one list that changes.
func truths(t api.RoundTask, order []int) iter.Seq[[]int] {
	return func(yield func([]int) bool) {
		minutes := make([]int, roadsOf(order))
		var from func(k int) bool
		from = func(k int) bool {
			if k == len(minutes) {
				return yield(minutes)
			}
			a, b := sideOf(order, k)
			for n := t.Minutes[a][b].Low; n <= t.Minutes[a][b].High; n++ {
				minutes[k] = n
				if !from(k + 1) {
					return false
				}
			}
			return true
		}
		from(0)
	}
}

// truthOf returns how long the roads of a round take, each as chosen.
func truthOf(t api.RoundTask, order []int, choose func(s api.Span) int) []int {
	var minutes []int
	for k := range roadsOf(order) {
		a, b := sideOf(order, k)
		minutes = append(minutes, choose(t.Minutes[a][b]))
	}
	return minutes
}

// drive is what happens on a round in a truth: when the cart leaves and comes on each road, and what is on it.
type drive struct{ leaves, comes, loads []int }

// driven returns what happens on a round in a truth.
func driven(t api.RoundTask, order, minutes []int) drive {
	var d drive
	now, load := t.Leaves, 0
	for _, p := range order {
		load += t.Places[p-1].Brought
	}
	for k, m := range minutes {
		d.leaves, d.loads = append(d.leaves, now), append(d.loads, load)
		now += m
		d.comes = append(d.comes, now)
		if k < len(order) {
			p := t.Places[order[k]-1]
			if now < p.Ready {
				now = p.Ready
			}
			now += p.Stop
			load = load - p.Brought + p.Fetched
		}
	}
	return d
}

// tooLate reports whether a cart comes too late at the end of a road.
func (d drive) tooLate(t api.RoundTask, order []int, number int) bool {
	if number < len(order) {
		return d.comes[number] > t.Places[order[number]-1].Due
	}
	return d.comes[number] > t.Back
}

// wrongRoad returns the first road on which something is wrong in a truth, or -1.
func (d drive) wrongRoad(t api.RoundTask, order []int) int {
	for k := range d.comes {
		if d.tooLate(t, order, k) || d.loads[k] > t.Holds {
			return k
		}
	}
	return -1
}

// backAt returns when a cart is back in a truth.
func (d drive) backAt(t api.RoundTask) int {
	if len(d.comes) == 0 {
		return t.Leaves
	}
	return d.comes[len(d.comes)-1]
}

// surelyServes reports whether a round is right in all truths, by looking at all of them.
func surelyServes(t api.RoundTask, order []int) bool {
	for minutes := range truths(t, order) {
		d := driven(t, order, minutes)
		if d.wrongRoad(t, order) >= 0 || d.backAt(t) > t.Back {
			return false
		}
	}
	return true
}

// latestBack returns when a cart is back at the latest, by looking at all truths.
func latestBack(t api.RoundTask, order []int) int {
	latest := -1
	for minutes := range truths(t, order) {
		latest = max(latest, driven(t, order, minutes).backAt(t))
	}
	return latest
}

// served is the rounds of a task that surely serve their outworkers.
type served [][]int

// servedOf finds them by looking at all rounds.
func servedOf(t api.RoundTask) served {
	var all served
	for order := range ordersOf(len(t.Places)) {
		if surelyServes(t, order) {
			all = append(all, slices.Clone(order))
		}
	}
	return all
}

// serve reports whether some round serves some outworkers, they alone.
func (s served) serve(some []int) bool {
	return slices.ContainsFunc(s, func(order []int) bool { return slices.Equal(sorted(order), sorted(some)) })
}

// sorted returns a list in its order.
func sorted(l []int) []int { return slices.Sorted(slices.Values(l)) }

// ordersOf yields all rounds of so many outworkers, of all of them or some. It is one list that changes.
func ordersOf(many int) iter.Seq[[]int] {
	return func(yield func([]int) bool) {
		var order []int
		var more func() bool
		more = func() bool {
			if !yield(order) {
				return false
			}
			for p := 1; p <= many; p++ {
				if slices.Contains(order, p) {
					continue
				}
				order = append(order, p)
				if !more() {
					return false
				}
				order = order[:len(order)-1]
			}
			return true
		}
		more()
	}
}

// someOf returns all lists of outworkers, ascending each: the shortest first, of those the smallest.
func someOf(many int) [][]int {
	all := [][]int{nil}
	for p := 1; p <= many; p++ {
		for _, l := range slices.Clone(all) {
			all = append(all, append(slices.Clone(l), p))
		}
	}
	slices.SortFunc(all, func(a, b []int) int { return cmp.Or(cmp.Compare(len(a), len(b)), slices.Compare(a, b)) })
	return all
}

// daysOf yields all lists of days of so many outworkers. It is one list that changes.
func daysOf(many int) iter.Seq[[]int] {
	return func(yield func([]int) bool) {
		days := make([]int, many)
		var from func(k int) bool
		from = func(k int) bool {
			if k == many {
				return yield(days)
			}
			for day := range many {
				days[k] = day
				if !from(k + 1) {
					return false
				}
			}
			return true
		}
		from(0)
	}
}

// onDay returns the outworkers of a day.
func onDay(days []int, day int) []int {
	var l []int
	for k, d := range days {
		if d == day {
			l = append(l, k+1)
		}
	}
	return l
}

// distinct returns how many numbers of a list are different.
func distinct(l []int) int { return len(slices.Compact(sorted(l))) }

// servesBy reports whether a round surely serves its outworkers, as Fault tells it.
func servesBy(t api.RoundTask, order []int) bool {
	_, _, e := round.Fault(t, order)
	return e == api.ErrNone
}
