package outwork_test

import (
	"iter"
	"math/rand"
	"slices"

	"panache/api"
	"panache/outwork"
)

func to(low, high int) api.Span { return api.Span{Low: low, High: high} }

func spans(l ...api.Span) []api.Span { return l }

// numbers returns its arguments.
func numbers(l ...int) []int { return l }

func book(l ...api.OutworkEntry) []api.OutworkEntry { return l }

func house(scales int, takes []api.Span, lost ...int) api.OutworkHouse {
	return api.OutworkHouse{Scales: scales, Takes: takes, Lost: lost}
}

func out(worker, stuff, count int) api.OutworkEntry {
	return api.OutworkEntry{Worker: worker, Kind: api.OutworkOut, Stuff: stuff, Count: count}
}

func back(worker, stuff, count int) api.OutworkEntry {
	return api.OutworkEntry{Worker: worker, Kind: api.OutworkBack, Stuff: stuff, Count: count}
}

func done(worker, fans int) api.OutworkEntry {
	return api.OutworkEntry{Worker: worker, Kind: api.OutworkDone, Count: fans}
}

// The house and the book of the chapter's examples, and the book of the example 4, which has no truth.
func example() api.OutworkHouse { return house(2, spans(to(10, 12), to(5, 5)), 100, 0) }

func exampleBook() []api.OutworkEntry {
	return book(out(0, 0, 200), out(0, 1, 100), done(0, 10), back(0, 0, 60), out(1, 0, 50))
}

func exampleWrong() []api.OutworkEntry { return append(exampleBook(), back(0, 0, 50)) }

func between(r *rand.Rand, low, high int) int { return low + r.Intn(high-low+1) }

func oneOf[T any](r *rand.Rand, l ...T) T { return l[r.Intn(len(l))] }

// anyHouse makes a house of so many stuffs at random, of which fans take rather little.
func anyHouse(r *rand.Rand, stuffs, scales, takes int) api.OutworkHouse {
	h := house(between(r, 0, scales), nil)
	for range stuffs {
		low := between(r, 0, takes)
		h.Takes = append(h.Takes, to(low, between(r, low, takes+1)))
		h.Lost = append(h.Lost, oneOf(r, 0, 0, 100, 250, 334, 500))
	}
	return h
}

// anyEntry makes an entry at random, of one of some workers.
func anyEntry(r *rand.Rand, h api.OutworkHouse, weight, fans int, workers ...int) api.OutworkEntry {
	worker, stuff := oneOf(r, workers...), r.Intn(len(h.Takes))
	switch r.Intn(7) {
	case 0:
		return back(worker, stuff, between(r, 0, weight))
	case 1:
		return back(worker, stuff, between(r, 0, weight/2))
	case 2, 3:
		return done(worker, between(r, 0, fans))
	}
	return out(worker, stuff, between(r, 0, weight))
}

// anySmall makes a house and a book at random that have not too many truths.
func anySmall(r *rand.Rand, entries int) (api.OutworkHouse, []api.OutworkEntry) {
	h := anyHouse(r, between(r, 1, 2), 1, 2)
	workers := r.Perm(api.MaxOutworkWorkers)[:between(r, 1, 2)]
	var b []api.OutworkEntry
	for range between(r, 0, entries) {
		b = append(b, anyEntry(r, h, 8, 2, workers...))
	}
	return h, b
}

// anyLarge makes a house and a book at random of any size.
func anyLarge(r *rand.Rand) (api.OutworkHouse, []api.OutworkEntry) {
	weight := oneOf(r, 10, 1000, api.MaxOutworkWeight)
	h := anyHouse(r, between(r, 1, api.MaxOutworkStuffs), between(r, 0, api.MaxOutworkOff), between(r, 0, 20))
	workers := r.Perm(api.MaxOutworkWorkers)[:between(r, 1, api.MaxOutworkWorkers)]
	var b []api.OutworkEntry
	for range between(r, 0, api.MaxOutworkEntries) {
		b = append(b, anyEntry(r, h, weight, oneOf(r, 1, 10, 100), workers...))
	}
	return h, b
}

// flow is what truly went through the hands of a worker of a stuff.
type flow struct{ out, back, fans, lost int }

func (f flow) home() int { return f.out - f.back - f.fans - f.lost }

// truth is the flow of each worker and each stuff.
type truth [api.MaxOutworkWorkers][api.MaxOutworkStuffs]flow

// unknown is a number that is not known exactly, and where it is added.
type unknown struct {
	at *int
	is api.Span
}

// unknowns returns all weighings of a book, and what each fan took of each stuff.
func unknowns(h api.OutworkHouse, b []api.OutworkEntry, u *truth) []unknown {
	var all []unknown
	for _, x := range b {
		weighed := to(max(0, x.Count-h.Scales), x.Count+h.Scales)
		switch x.Kind {
		case api.OutworkOut:
			all = append(all, unknown{&u[x.Worker][x.Stuff].out, weighed})
		case api.OutworkBack:
			all = append(all, unknown{&u[x.Worker][x.Stuff].back, weighed})
		case api.OutworkDone:
			for range x.Count {
				for stuff, each := range h.Takes {
					all = append(all, unknown{&u[x.Worker][stuff].fans, each})
				}
			}
		}
	}
	return all
}

// flows yields all that can have happened, also if someone has less than 0 at home then.
func flows(h api.OutworkHouse, b []api.OutworkEntry) iter.Seq[truth] {
	return func(yield func(truth) bool) {
		var u truth
		all := unknowns(h, b, &u)
		var lose func(cell int) bool
		lose = func(cell int) bool {
			if cell == api.MaxOutworkWorkers*len(h.Takes) {
				return yield(u)
			}
			stuff := cell % len(h.Takes)
			f := &u[cell/len(h.Takes)][stuff]
			for f.lost = 0; f.lost*1000 <= f.out*h.Lost[stuff]; f.lost++ {
				if !lose(cell + 1) {
					return false
				}
			}
			return true
		}
		var from func(k int) bool
		from = func(k int) bool {
			if k == len(all) {
				return lose(0)
			}
			before := *all[k].at
			for n := all[k].is.Low; n <= all[k].is.High; n++ {
				*all[k].at = before + n
				if !from(k + 1) {
					return false
				}
			}
			*all[k].at = before
			return true
		}
		from(0)
	}
}

// isTruth reports whether nobody has less than 0 at home.
func (u truth) isTruth() bool {
	for _, l := range u {
		if slices.ContainsFunc(l[:], func(f flow) bool { return f.home() < 0 }) {
			return false
		}
	}
	return true
}

// truths yields all truths of a book.
func truths(h api.OutworkHouse, b []api.OutworkEntry) iter.Seq[truth] {
	return func(yield func(truth) bool) {
		for u := range flows(h, b) {
			if u.isTruth() && !yield(u) {
				return
			}
		}
	}
}

// seen is the least and the greatest of numbers that were seen.
type seen struct {
	is  api.Span
	any bool
}

func (s *seen) add(n int) {
	if !s.any {
		s.is = to(n, n)
	}
	s.is = to(min(s.is.Low, n), max(s.is.High, n))
	s.any = true
}

// hasTruth reports whether a book has a truth, by the error of Has, which TestAllTruths finds to be right.
func hasTruth(h api.OutworkHouse, b []api.OutworkEntry) bool {
	_, e := outwork.Has(h, b, 0)
	if e != api.OK && e != api.ErrState {
		panic(e)
	}
	return e == api.OK
}

// hasOf returns what Has says.
func hasOf(h api.OutworkHouse, b []api.OutworkEntry, worker int) []api.Span {
	l, e := outwork.Has(h, b, worker)
	if e != api.OK {
		panic(e)
	}
	return l
}

// counting returns a book with another Count of an entry.
func counting(b []api.OutworkEntry, entry, count int) []api.OutworkEntry {
	b = slices.Clone(b)
	b[entry].Count = count
	return b
}

// greatest returns the greatest Count of an entry.
func greatest(x api.OutworkEntry) int {
	if x.Kind == api.OutworkDone {
		return api.MaxOutworkFans
	}
	return api.MaxOutworkWeight
}
