package round

import (
	"slices"

	"panache/api"
)

// Which end of what a time can be.
const (
	soonest = 0
	latest  = 1
)

// when is the ends of what a time can be: it is each integer between them in some truth.
type when struct{ ends [2]int }

// after returns when it is after so many minutes.
func (w when) after(minutes api.Span) when {
	return when{[2]int{w.ends[soonest] + minutes.Low, w.ends[latest] + minutes.High}}
}

// waiting returns when it is if one waits until a time.
func (w when) waiting(until int) when {
	for k, end := range w.ends {
		w.ends[k] = max(end, until)
	}
	return w
}

func (w when) span() api.Span { return api.Span{Low: w.ends[soonest], High: w.ends[latest]} }

// road is one of a round: where it ends, when the cart leaves at its beginning and comes to its end, and how much is on it.
type road struct {
	to            int
	leaves, comes when
	load          int
}

// canHave reports whether the cart can be on the road at a time.
func (w road) canHave(time int) bool {
	// The cart is never on a road that takes no minutes, even if it can leave sooner or later. On any other one it is at each of these times in some truth.
	return w.leaves != w.comes && w.leaves.ends[soonest] <= time && time < w.comes.ends[latest]
}

// round is a round of a task.
type round struct {
	task
	order []int
}

// roundOf returns a round of a task, or the error of the task, or ErrTwice if it is none.
func roundOf(t api.RoundTask, order ...int) (round, api.Errno) {
	valid, e := taskOf(t)
	switch {
	case e != api.OK:
		return round{}, e
	case !valid.isRound(order...):
		return round{}, api.ErrTwice
	}
	return round{valid, order}, api.OK
}

// without returns the round without one of its outworkers.
func (r round) without(number int) round {
	r.order = slices.Delete(slices.Clone(r.order), number, number+1)
	return r
}

// later returns the round if the cart leaves so many minutes later.
func (r round) later(minutes int) round {
	r.Leaves += minutes
	return r
}

// start returns when the cart leaves the house.
func (r round) start() when { return when{[2]int{r.Leaves, r.Leaves}} }

// brought returns how much is brought to all outworkers of the round.
func (r round) brought() int {
	dozens := 0
	for _, number := range r.order {
		dozens += r.place(number).Brought
	}
	return dozens
}

// roads yields the roads of the round with their numbers. A round of none has none.
func (r round) roads(yield func(number int, w road) bool) {
	if len(r.order) == 0 {
		return
	}
	from, leaves, load := house, r.start(), r.brought()
	for number := range len(r.order) + 1 {
		to := house
		if number < len(r.order) {
			to = r.order[number]
		}
		comes := leaves.after(r.Minutes[from][to])
		if !yield(number, road{to, leaves, comes, load}) {
			return
		}
		p := r.place(to)
		from, leaves, load = to, comes.waiting(p.Ready).after(api.Span{Low: p.Stop, High: p.Stop}), load-p.Brought+p.Fetched
	}
}

// times returns when the carrier comes to each outworker, and back at last.
func (r round) times() []api.Span {
	var spans []api.Span
	for _, w := range r.roads {
		spans = append(spans, w.comes.span())
	}
	if len(spans) == 0 {
		spans = append(spans, r.start().span())
	}
	return spans
}

// back returns when the carrier is back.
func (r round) back() api.Span {
	l := r.times()
	return l[len(l)-1]
}

// fault returns the first road on which the round can go wrong, and whether it surely does, or ErrNone if there is none.
func (r round) fault() (at int, surely bool, e api.Errno) {
	for number, w := range r.roads {
		tooLate := func(end int) bool { return w.comes.ends[end] > r.place(w.to).Due }
		tooMuch := w.load > r.Holds
		if tooMuch || tooLate(latest) {
			return number, tooMuch || tooLate(soonest), api.OK
		}
	}
	return 0, false, api.ErrNone
}

// serves reports whether the round surely serves its outworkers.
func (r round) serves() bool {
	_, _, e := r.fault()
	return e == api.ErrNone && r.back().High <= r.Back // a round of none has no road that could end too late
}
