package stick_test

import (
	"iter"
	"math/rand"
	"slices"

	"panache/api"
	"panache/stick"
)

func to(low, high int) api.Span { return api.Span{Low: low, High: high} }

func mark(teeth, low, high int) api.StickMark {
	return api.StickMark{Teeth: teeth, Place: to(low, high)}
}

func row(marks ...api.StickMark) []api.StickMark { return marks }

func spot(tooth, place int) api.StickSpot { return api.StickSpot{Tooth: tooth, Place: place} }

func cut(tooth, place, thick int) api.StickCut {
	return api.StickCut{Tooth: tooth, Place: place, Thick: thick}
}

func fan(count, off, spread int) api.StickFan {
	return api.StickFan{Count: count, Off: off, Spread: spread}
}

func loss(of, high int) api.StickLoss { return api.StickLoss{Of: of, High: high} }

func between(r *rand.Rand, low, high int) int { return low + r.Intn(high-low+1) }

// anyMark makes a mark at random, of one of these teeth, with at most wide places up to a last one.
func anyMark(r *rand.Rand, teeth, wide, last int) api.StickMark {
	low := between(r, 1, last)
	return mark(between(r, 1, 1<<teeth-1), low, min(last, low+between(r, 0, wide-1)))
}

// anyRow makes a row with a truth at random. Every other one is made so that its sticks are often in order.
func anyRow(r *rand.Rand, sticks int) []api.StickMark {
	for {
		var l []api.StickMark
		teeth, wide, last := between(r, 1, 3), between(r, 1, 4), between(r, 4, api.MaxStickPlaces)
		for range between(r, 0, sticks) {
			m := anyMark(r, teeth, wide, last)
			if r.Intn(2) == 0 {
				m.Teeth |= 1
			}
			l = append(l, m)
		}
		if r.Intn(2) == 0 {
			slices.SortStableFunc(l, func(a, b api.StickMark) int { return a.Place.Low - b.Place.Low })
		}
		if stick.Check(l) == api.OK {
			return l
		}
	}
}

// smallRow makes a row at random whose truths can all be looked at.
func smallRow(r *rand.Rand, sticks, most int) []api.StickMark {
	for {
		if l := anyRow(r, sticks); tries(l) <= most {
			return l
		}
	}
}

// spotsOf returns all spots that a mark says.
func spotsOf(m api.StickMark) []api.StickSpot {
	var l []api.StickSpot
	for tooth := range api.MaxStickTeeth {
		for place := m.Place.Low; place <= m.Place.High; place++ {
			if m.Teeth>>tooth&1 == 1 {
				l = append(l, spot(tooth, place))
			}
		}
	}
	return l
}

// tries is how many lists of spots are tried to find the truths of a row.
func tries(l []api.StickMark) int {
	n := 1
	for _, m := range l {
		n *= len(spotsOf(m))
	}
	return n
}

// truths yields the truths of a row as the chapter says them: all lists of spots that differ.
func truths(l []api.StickMark) iter.Seq[[]api.StickSpot] {
	return func(yield func([]api.StickSpot) bool) {
		var from func(now []api.StickSpot) bool
		from = func(now []api.StickSpot) bool {
			if len(now) == len(l) {
				return yield(slices.Clone(now))
			}
			for _, s := range spotsOf(l[len(now)]) {
				if !slices.Contains(now, s) && !from(append(now, s)) {
					return false
				}
			}
			return true
		}
		from(make([]api.StickSpot, 0, len(l)))
	}
}

// right reports whether sticks are right in a truth.
func right(l []api.StickSpot) bool {
	for k := 1; k < len(l); k++ {
		if l[k].Tooth != l[0].Tooth || l[k].Place <= l[k-1].Place {
			return false
		}
	}
	return true
}

// possiblyRight reports whether a row is right in a truth.
func possiblyRight(l []api.StickMark) bool {
	for u := range truths(l) {
		if right(u) {
			return true
		}
	}
	return false
}

// without returns a row without some of its sticks.
func without(l []api.StickMark, out []int) []api.StickMark {
	var left []api.StickMark
	for k, m := range l {
		if !slices.Contains(out, k) {
			left = append(left, m)
		}
	}
	return left
}

// lists returns all lists of so many numbers below n that ascend, in their order.
func lists(many, n int) [][]int {
	if many == 0 {
		return [][]int{nil}
	}
	var all [][]int
	for last := many - 1; last < n; last++ {
		for _, l := range lists(many-1, last) {
			all = append(all, append(l, last))
		}
	}
	slices.SortFunc(all, slices.Compare[[]int])
	return all
}

// fills yields all texts that a text can be when the sticks that nobody saw are whole or broken, as far as the piercer can have done it.
func fills(l api.StickLoss, seen string) iter.Seq[string] {
	return func(yield func(string) bool) {
		var from func(text []byte) bool
		from = func(text []byte) bool {
			k := slices.Index(text, '?')
			if k < 0 {
				return !can(l, string(text)) || yield(string(text))
			}
			for _, c := range []byte("ox") {
				next := slices.Clone(text)
				next[k] = c
				if !from(next) {
					return false
				}
			}
			return true
		}
		from([]byte(seen))
	}
}

// broken is how many sticks of a text are.
func broken(text string) int {
	n := 0
	for _, c := range text {
		if c == 'x' {
			n++
		}
	}
	return n
}

// can reports whether a piercer can have broken these sticks: any Of of them, or fewer, one after another.
func can(l api.StickLoss, text string) bool {
	for from := range text {
		for many := 0; many <= l.Of && from+many <= len(text); many++ {
			if broken(text[from:from+many]) > l.High {
				return false
			}
		}
	}
	return true
}

// anyCuts makes sticks that are known, at random, no two with one spot.
func anyCuts(r *rand.Rand, sticks, teeth, thick int) []api.StickCut {
	var l []api.StickCut
	for range between(r, 0, sticks) {
		c := cut(r.Intn(teeth), between(r, 1, api.MaxStickPlaces), between(r, 1, thick))
		if !slices.ContainsFunc(l, func(d api.StickCut) bool { return d.Tooth == c.Tooth && d.Place == c.Place }) {
			l = append(l, c)
		}
	}
	return l
}

// isFan reports whether sticks are a fan, whatever their order: the two that are most unlike are tried with all that the gauge can be wrong.
func isFan(cuts []api.StickCut, f api.StickFan, sticks []int) bool {
	for _, k := range sticks {
		for _, l := range sticks {
			if k != l && (cuts[k].Tooth != cuts[l].Tooth || cuts[k].Thick+f.Off-(cuts[l].Thick-f.Off) > f.Spread) {
				return false
			}
		}
	}
	return len(sticks) == f.Count
}

// mostFans tries all fans of the sticks that are left, and returns how many can be made.
func mostFans(cuts []api.StickCut, f api.StickFan, left []int) int {
	if len(left) < f.Count {
		return 0
	}
	most := mostFans(cuts, f, left[1:]) // without the first of them
	for _, l := range lists(f.Count-1, len(left)-1) {
		sticks := []int{left[0]}
		for _, k := range l {
			sticks = append(sticks, left[1+k])
		}
		if isFan(cuts, f, sticks) {
			rest := slices.DeleteFunc(slices.Clone(left), func(k int) bool { return slices.Contains(sticks, k) })
			most = max(most, 1+mostFans(cuts, f, rest))
		}
	}
	return most
}
