package outwork

import (
	"iter"
	"slices"
	"sort"

	"panache/api"
	"panache/sets"
	"panache/span"
)

// office is a house with a book, both valid.
type office struct {
	api.OutworkHouse
	book []api.OutworkEntry
	free func(entry int) bool // the Count of an entry that is free can be any that is valid
}

// open returns the office of a house and a book, or their error.
func open(h api.OutworkHouse, book []api.OutworkEntry) (office, api.Errno) {
	if e := houseError(h); e != api.OK {
		return office{}, e
	}
	if e := bookError(h, book); e != api.OK {
		return office{}, e
	}
	return office{h, book, func(int) bool { return false }}, api.OK
}

// openTrue returns the office of a house and a book that has a truth, or their error.
func openTrue(h api.OutworkHouse, book []api.OutworkEntry) (office, api.Errno) {
	o, e := open(h, book)
	if e == api.OK && !o.hasTruth() {
		e = api.ErrState
	}
	return o, e
}

// houseError returns the error of a house.
func houseError(h api.OutworkHouse) api.Errno {
	switch {
	case !span.Within(0, api.MaxOutworkOff, h.Scales):
		return api.ErrRange
	case !span.Within(1, api.MaxOutworkStuffs, len(h.Takes)) || len(h.Lost) != len(h.Takes):
		return api.ErrForm
	case !span.Valid(0, api.MaxOutworkTakes, h.Takes...) || !span.Within(0, 1000, h.Lost...):
		return api.ErrArg
	}
	return api.OK
}

// bookError returns the error of the book of a valid house.
func bookError(h api.OutworkHouse, book []api.OutworkEntry) api.Errno {
	stranger := func(x api.OutworkEntry) bool {
		return !workerValid(x.Worker) || !span.Within(0, stuffsOf(h, x.Kind)-1, x.Stuff)
	}
	wrong := func(x api.OutworkEntry) bool { return !span.Within(0, greatestCount(x.Kind), x.Count) }
	switch {
	case len(book) > api.MaxOutworkEntries:
		return api.ErrLong
	case slices.ContainsFunc(book, stranger):
		return api.ErrNone
	case slices.ContainsFunc(book, wrong):
		return api.ErrFull
	}
	return api.OK
}

func workerValid(worker int) bool { return span.Within(0, api.MaxOutworkWorkers-1, worker) }

// stuffsOf returns how many numbers an entry of a kind can have as its Stuff: none if there is no such kind.
func stuffsOf(h api.OutworkHouse, kind api.OutworkKind) int {
	switch kind {
	case api.OutworkOut, api.OutworkBack:
		return len(h.Takes)
	case api.OutworkDone:
		return 1
	}
	return 0
}

// greatestCount returns the greatest Count of an entry of a kind.
func greatestCount(kind api.OutworkKind) int {
	if kind == api.OutworkDone {
		return api.MaxOutworkFans
	}
	return api.MaxOutworkWeight
}

// shown returns what the Count of an entry can be.
func (o office) shown(entry int) api.Span {
	x := o.book[entry]
	if o.free(entry) {
		return api.Span{High: greatestCount(x.Kind)}
	}
	return api.Span{Low: x.Count, High: x.Count}
}

// stuffValid reports whether a number is that of a stuff of the house.
func (o office) stuffValid(stuff int) bool { return span.Within(0, len(o.Takes)-1, stuff) }

// accounts yields the accounts of a worker, stuff by stuff.
func (o office) accounts(worker int) iter.Seq[account] {
	return func(yield func(account) bool) {
		for stuff := range len(o.Takes) {
			if !yield(o.account(worker, stuff)) {
				return
			}
		}
	}
}

// hasTruth reports whether the book has a truth.
func (o office) hasTruth() bool {
	for worker := range api.MaxOutworkWorkers {
		for a := range o.accounts(worker) {
			if a.most() < 0 {
				return false
			}
		}
	}
	return true
}

// has returns what a worker can have of each stuff at home. One truth can have the least of all stuffs, or the most of all, as no weight has to do with two of them.
func (o office) has(worker int) []api.Span {
	var spans []api.Span
	for a := range o.accounts(worker) {
		spans = append(spans, a.home())
	}
	return spans
}

// freeing returns the office with other entries that are free.
func (o office) freeing(free func(entry int) bool) office {
	o.free = free
	return o
}

// showing returns the office with another Count of an entry.
func (o office) showing(entry, count int) office {
	o.book = slices.Clone(o.book)
	o.book[entry].Count = count
	return o
}

// fewestWrong returns the fewest entries that must be free so that there is a truth: of several such lists the smallest one.
func (o office) fewestWrong() []int {
	// With all of them free there is one, in which nothing was brought back and no fans were made.
	fewest, _ := sets.Fewest(len(o.book), func(set int) bool {
		return o.freeing(func(entry int) bool { return set&(1<<entry) != 0 }).hasTruth()
	})
	return fewest
}

// blame returns the Counts of an entry with which there is a truth: from 1 to 0 if there is none.
func (o office) blame(entry int) api.Span {
	if !o.freeing(func(other int) bool { return other == entry }).hasTruth() {
		return api.Span{Low: 1, High: 0}
	}
	right := func(count int) bool { return o.showing(entry, count).hasTruth() }
	greatest := greatestCount(o.book[entry].Kind)
	// If more was given out, and less came back, no truth is lost: so the Counts are all from one on, or all up to one.
	if o.book[entry].Kind == api.OutworkOut {
		return api.Span{Low: sort.Search(greatest, right), High: greatest}
	}
	return api.Span{Low: 0, High: sort.Search(greatest, func(count int) bool { return !right(count + 1) })}
}

// moved returns the least weight of a stuff that must have passed between workers so that there is a truth, or ErrNone if all of them together have not enough.
func (o office) moved(stuff int) (int, api.Errno) {
	missing, together := 0, 0
	for worker := range api.MaxOutworkWorkers {
		most := o.account(worker, stuff).most()
		missing += max(0, -most)
		together += most
	}
	if together < 0 {
		return 0, api.ErrNone
	}
	return missing, api.OK
}
