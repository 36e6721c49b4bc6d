package mix

import (
	"slices"

	"panache/api"
	"panache/sets"
	"panache/span"
)

// load is boxes that were mixed with the bills of their carriers, all valid.
type load api.MixLoad

// loadError returns the error of a load.
func loadError(l api.MixLoad) api.Errno {
	switch {
	case len(l.Boxes) > api.MaxMixBoxes || len(l.Bills) > api.MaxMixCarriers:
		return api.ErrLong
	case len(l.Bills) == 0:
		return api.ErrNone
	}
	stuffs := len(l.Bills[0].Held)
	oddBox := func(b api.MixBox) bool { return len(b.Held) != stuffs }
	oddBill := func(b api.MixBill) bool { return len(b.Held) != stuffs }
	wrongBox := func(b api.MixBox) bool { return !span.Valid(0, api.MaxMixHeld, b.Held...) }
	wrongBill := func(b api.MixBill) bool {
		return !span.Within(0, api.MaxMixBoxes, b.Boxes) || !span.Valid(0, api.MaxMixBill, b.Held...)
	}
	switch {
	case !span.Within(1, api.MaxMixStuffs, stuffs) || slices.ContainsFunc(l.Boxes, oddBox) || slices.ContainsFunc(l.Bills, oddBill):
		return api.ErrForm
	case slices.ContainsFunc(l.Boxes, wrongBox) || slices.ContainsFunc(l.Bills, wrongBill):
		return api.ErrArg
	}
	return api.OK
}

// stuffs returns how many stuffs there are.
func (l load) stuffs() int { return len(l.Bills[0].Held) }

// fetched returns how many boxes all bills say together.
func (l load) fetched() int {
	boxes := 0
	for _, b := range l.Bills {
		boxes += b.Boxes
	}
	return boxes
}

// ways yields all ways, the smallest one first, each with what the carriers have then. They are two lists that change.
func (l load) ways(yield func(way []int, has []carried) bool) {
	if l.fetched() != len(l.Boxes) {
		return
	}
	way, has := make([]int, len(l.Boxes)), make([]carried, len(l.Bills))
	var give func(box int) bool
	give = func(box int) bool {
		if box == len(l.Boxes) {
			return !l.allows(has) || yield(way, has)
		}
		for carrier, bill := range l.Bills {
			before := has[carrier]
			if before.boxes == bill.Boxes {
				continue
			}
			way[box], has[carrier] = carrier, before.with(l.Boxes[box])
			if !give(box + 1) {
				return false
			}
			has[carrier] = before
		}
		return true
	}
	give(0)
}

// allows reports whether the carriers can have of each stuff what their bills say.
func (l load) allows(has []carried) bool {
	for carrier, bill := range l.Bills {
		if !has[carrier].meet(bill.Held...) {
			return false
		}
	}
	return true
}

// hasWay reports whether there is a way.
func (l load) hasWay() bool {
	for range l.ways {
		return true
	}
	return false
}

// freeing returns the load when boxes of a set can have any number of each stuff.
func (l load) freeing(set int) load {
	l.Boxes = slices.Clone(l.Boxes)
	for box := range sets.Each(set) {
		// As no bill says more than MaxMixBill, no box needs more.
		l.Boxes[box].Held = slices.Repeat([]api.Span{{High: api.MaxMixBill}}, l.stuffs())
	}
	return l
}

// short returns by how much all boxes can have more than all bills say, of each stuff.
func (l load) short() []api.Span {
	var had, said sums
	for _, b := range l.Boxes {
		had = had.plus(b.Held...)
	}
	for _, b := range l.Bills {
		said = said.plus(b.Held...)
	}
	var spans []api.Span
	for stuff := range l.stuffs() {
		spans = append(spans, api.Span{Low: had[stuff].Low - said[stuff].High, High: had[stuff].High - said[stuff].Low})
	}
	return spans
}

// share returns how much of a stuff a carrier can have over all ways. There is one at least.
func (l load) share(carrier, stuff int) api.Span {
	all := api.Span{Low: api.MaxMixBill, High: 0}
	for _, has := range l.ways {
		s := span.Common(has[carrier].sums[stuff], l.Bills[carrier].Held[stuff])
		all = api.Span{Low: min(all.Low, s.Low), High: max(all.High, s.High)}
	}
	return all
}
