package tooth_test

import (
	"iter"
	"math/rand"
	"slices"

	"panache/api"
	"panache/tooth"
)

func to(low, high int) api.Span { return api.Span{Low: low, High: high} }

func at(x, y int) api.ToothPlace { return api.ToothPlace{X: x, Y: y} }

func saw(long, wide, kerf, across int) api.ToothSaw {
	return api.ToothSaw{Long: long, Wide: wide, Kerf: kerf, Across: across}
}

func same(n int, s api.Span) []api.Span { return slices.Repeat([]api.Span{s}, n) }

// example is the blade of the chapter's examples, changed.
func example(changes ...func(b *api.ToothBlade)) api.ToothBlade {
	b := api.ToothBlade{
		Bottom: []api.Span{to(0, 2), to(0, 0), to(1, 4), to(0, 0), to(0, 1), to(3, 3)},
		Top:    []api.Span{to(30, 30), to(30, 30), to(20, 22), to(30, 30), to(30, 30), to(30, 30)},
		Bend:   10,
		Cracks: []api.ToothCrack{{Column: to(4, 5), From: to(10, 11), To: to(12, 14)}},
	}
	for _, c := range changes {
		c(&b)
	}
	return b
}

// plain is a blade without cracks that is between two heights everywhere.
func plain(columns, low, high int) api.ToothBlade {
	return api.ToothBlade{Bottom: same(columns, to(low, low)), Top: same(columns, to(high, high))}
}

// cracked is a plain blade with cracks.
func cracked(columns, low, high int, cracks ...api.ToothCrack) api.ToothBlade {
	b := plain(columns, low, high)
	b.Cracks = cracks
	return b
}

func crack(column, from, to api.Span) api.ToothCrack {
	return api.ToothCrack{Column: column, From: from, To: to}
}

// size says how large blades are that are made at random.
type size struct{ columns, high, doubt, cracks, where, kerf int }

func between(r *rand.Rand, low, high int) int { return low + r.Intn(high-low+1) }

// spanIn is a span from low to high that is no longer than doubt.
func spanIn(r *rand.Rand, low, high, doubt int) api.Span {
	l := between(r, low, high)
	return to(l, between(r, l, min(high, l+doubt)))
}

// anyBlade makes a valid blade at random, and a saw for it.
func anyBlade(r *rand.Rand, z size) (api.ToothBlade, api.ToothSaw) {
	for {
		var b api.ToothBlade
		for range between(r, 1, z.columns) {
			b.Bottom = append(b.Bottom, spanIn(r, 0, z.high/3, z.doubt))
			b.Top = append(b.Top, spanIn(r, z.high/3+z.doubt, z.high, z.doubt))
		}
		b.Bend = between(r, 0, z.high/2)
		for range between(r, 0, z.cracks) {
			k := api.ToothCrack{Column: spanIn(r, 0, len(b.Bottom)-1, z.where-1), From: spanIn(r, 0, z.high, z.doubt)}
			k.To = spanIn(r, k.From.High, min(z.high, k.From.High+z.high/3), z.doubt)
			b.Cracks = append(b.Cracks, k)
		}
		if tooth.Check(b) == api.OK {
			return b, saw(between(r, 1, min(4, len(b.Bottom)+1)), between(r, 1, max(2, z.high/3)), between(r, 0, z.kerf), between(r, 0, 2))
		}
	}
}

// truth is a truth of a blade, as the chapter says it.
type truth struct{ bottom, top, column, from, to []int }

// lists yields all lists of integers of the spans, in ascending order. It is one list that changes.
func lists(spans []api.Span) iter.Seq[[]int] {
	return func(yield func([]int) bool) {
		l := make([]int, len(spans))
		var from func(k int) bool
		from = func(k int) bool {
			if k == len(spans) {
				return yield(l)
			}
			for l[k] = spans[k].Low; l[k] <= spans[k].High; l[k]++ {
				if !from(k + 1) {
					return false
				}
			}
			return true
		}
		from(0)
	}
}

// edges returns all lists of heights of an edge that bends as it may.
func edges(spans []api.Span, bend int) [][]int {
	var all [][]int
	for l := range lists(spans) {
		bends := false
		for x := 1; x < len(l); x++ {
			bends = bends || max(l[x]-l[x-1], l[x-1]-l[x]) > bend
		}
		if !bends {
			all = append(all, slices.Clone(l))
		}
	}
	return all
}

// truths yields all truths of a blade.
func truths(b api.ToothBlade) iter.Seq[truth] {
	return func(yield func(truth) bool) {
		var spans []api.Span
		for _, k := range b.Cracks {
			spans = append(spans, k.Column, k.From, k.To)
		}
		tops := edges(b.Top, b.Bend)
		for _, bottom := range edges(b.Bottom, b.Bend) {
			for _, top := range tops {
				for l := range lists(spans) {
					u := truth{bottom: bottom, top: top}
					for k := 0; k < len(l); k += 3 {
						u.column, u.from, u.to = append(u.column, l[k]), append(u.from, l[k+1]), append(u.to, l[k+2])
					}
					if !yield(u) {
						return
					}
				}
			}
		}
	}
}

// many returns at least the number of truths of a blade.
func many(b api.ToothBlade) int {
	n := 1
	spans := slices.Concat(b.Bottom, b.Top)
	for _, k := range b.Cracks {
		spans = append(spans, k.Column, k.From, k.To)
	}
	for _, s := range spans {
		n *= s.High - s.Low + 1
	}
	return n
}

// sound reports whether a stick is sound in a truth.
func (u truth) sound(s api.ToothSaw, p api.ToothPlace) bool {
	for x := p.X; x < p.X+s.Long; x++ {
		if p.Y < u.bottom[x] || p.Y+s.Wide > u.top[x] {
			return false
		}
		for k, c := range u.column {
			if c == x && u.to[k] > p.Y && u.from[k] < p.Y+s.Wide {
				return false
			}
		}
	}
	return true
}

// allPlaces returns all places of a blade up to a height, ascending.
func allPlaces(b api.ToothBlade, s api.ToothSaw, high int) []api.ToothPlace {
	var l []api.ToothPlace
	for x := 0; x+s.Long <= len(b.Bottom); x++ {
		for y := 0; y <= high; y++ {
			l = append(l, at(x, y))
		}
	}
	return l
}

// apart reports whether two places can be in one layout.
func apart(s api.ToothSaw, p, q api.ToothPlace) bool {
	inOne := p.X == q.X && (p.Y-q.Y >= s.Wide+s.Kerf || q.Y-p.Y >= s.Wide+s.Kerf)
	inTwo := p.X-q.X >= s.Long+s.Across || q.X-p.X >= s.Long+s.Across
	return inOne || inTwo
}

// smallestLayout tries the layouts of these places, in their order, and returns the first of those with the most places.
func smallestLayout(s api.ToothSaw, places []api.ToothPlace) []api.ToothPlace {
	var best, now []api.ToothPlace
	var try func(left []api.ToothPlace)
	try = func(left []api.ToothPlace) {
		if len(now) > len(best) {
			best = slices.Clone(now)
		}
		for k, p := range left {
			if len(now)+len(left)-k <= len(best) {
				return
			}
			var next []api.ToothPlace
			for _, q := range left[k+1:] {
				if apart(s, p, q) {
					next = append(next, q)
				}
			}
			now = append(now, p)
			try(next)
			now = now[:len(now)-1]
		}
	}
	try(places)
	return best
}
