package rivet_test

import (
	"iter"
	"math/big"
	"math/rand"
	"slices"

	"panache/api"
	"panache/rivet"
)

func to(low, high int) api.Span { return api.Span{Low: low, High: high} }

// at is the span of a number that is known.
func at(n int) api.Span { return to(n, n) }

func gap(leaf, foot api.Span) api.RivetGap { return api.RivetGap{Leaf: leaf, Foot: foot} }

// arcs is a gap whose arcs are known.
func arcs(leaf, foot int) api.RivetGap { return gap(at(leaf), at(foot)) }

func fan(far, near api.Span, gaps ...api.RivetGap) api.RivetFan {
	return api.RivetFan{Far: far, Near: near, Gaps: gaps}
}

// degreeFan is a fan whose notches never stop a gap of it, so that a Leaf of 71 makes one degree: 355 * 4068 = 180 * 113 * 71.
func degreeFan(leaves ...int) api.RivetFan {
	f := fan(at(4068), at(1))
	for _, n := range leaves {
		f.Gaps = append(f.Gaps, arcs(n, 500))
	}
	return f
}

// footFan is a fan whose leaf never stops a gap of it, so that a Foot of 71 makes one degree.
func footFan(feet ...int) api.RivetFan {
	f := fan(at(4069), at(4068))
	for _, n := range feet {
		f.Gaps = append(f.Gaps, arcs(1000, n))
	}
	return f
}

// example is the fan of the chapter's examples.
func example() api.RivetFan {
	return fan(to(900, 1000), to(40, 50), gap(to(200, 210), at(12)), gap(at(100), to(4, 5)))
}

func stick(weight, thick api.Span, place int) api.RivetStick {
	return api.RivetStick{Weight: weight, Thick: thick, Place: place}
}

// weighed is a stick of which it does not matter how thick it is.
func weighed(weight api.Span, place int) api.RivetStick { return stick(weight, at(1), place) }

// thick is a stick of which nothing else matters.
func thick(t api.Span) api.RivetStick { return stick(at(1), t, 0) }

func ratio(num, den int) api.Ratio { return api.Ratio{Num: num, Den: den} }

func between(r *rand.Rand, low, high int) int { return low + r.Intn(high-low+1) }

// anySpan makes a span at random, of doubt + 1 numbers at most.
func anySpan(r *rand.Rand, low, high, doubt int) api.Span {
	a := between(r, low, high)
	return to(a, min(high, a+between(r, 0, doubt)))
}

// size says how large fans and sticks are that are made at random.
type size struct{ far, near, leaf, foot, gaps, doubt, sticks, weight, thick int }

// small are fans whose truths can all be looked at, middle are those with all sets of gaps, large are those that can be.
var (
	small  = size{far: 60, near: 12, leaf: 30, foot: 8, gaps: 2, doubt: 2, sticks: 5, weight: 9, thick: 9}
	middle = size{far: 300, near: 60, leaf: 150, foot: 40, gaps: 8, doubt: 4, sticks: 8, weight: 90, thick: 50}
	large  = size{far: api.MaxRivetFar, near: api.MaxRivetFar - 1, leaf: api.MaxRivetLeaf, foot: api.MaxRivetFoot, gaps: api.MaxRivetGaps, doubt: 100, sticks: api.MaxRivetSticks, weight: api.MaxRivetWeight, thick: api.MaxRivetThick}
)

func anyGap(r *rand.Rand, z size) api.RivetGap {
	return gap(anySpan(r, 0, z.leaf, z.doubt), anySpan(r, 0, z.foot, z.doubt))
}

// fanWith makes a valid fan at random, with so many gaps.
func fanWith(r *rand.Rand, z size, gaps int) api.RivetFan {
	near := anySpan(r, 1, between(r, 1, z.near), z.doubt)
	f := fan(anySpan(r, near.High+1, z.far, z.doubt), near)
	for range gaps {
		f.Gaps = append(f.Gaps, anyGap(r, z))
	}
	if rivet.Check(f) != api.OK {
		panic("not valid")
	}
	return f
}

// anyFan makes a valid fan at random.
func anyFan(r *rand.Rand, z size) api.RivetFan { return fanWith(r, z, between(r, 0, z.gaps)) }

// someFan makes a valid fan with gaps at random.
func someFan(r *rand.Rand, z size) api.RivetFan { return fanWith(r, z, between(r, 1, z.gaps)) }

func anyStick(r *rand.Rand, z size) api.RivetStick {
	return stick(anySpan(r, 1, z.weight, z.doubt), anySpan(r, 1, z.thick, z.doubt), between(r, 0, z.far))
}

func anySticks(r *rand.Rand, z size) []api.RivetStick {
	var l []api.RivetStick
	for range between(r, 0, z.sticks) {
		l = append(l, anyStick(r, z))
	}
	return l
}

// choices yields all lists with a number of each span. It is one list that changes.
func choices(spans ...api.Span) iter.Seq[[]int] {
	return func(yield func([]int) bool) {
		l := make([]int, len(spans))
		var from func(k int) bool
		from = func(k int) bool {
			if k == len(l) {
				return yield(l)
			}
			for n := spans[k].Low; n <= spans[k].High; n++ {
				l[k] = n
				if !from(k + 1) {
					return false
				}
			}
			return true
		}
		from(0)
	}
}

// truths yields all truths of a fan, as fans whose numbers are all known. It is one fan that changes.
func truths(f api.RivetFan) iter.Seq[api.RivetFan] {
	spans := []api.Span{f.Far, f.Near}
	for _, g := range f.Gaps {
		spans = append(spans, g.Leaf, g.Foot)
	}
	return func(yield func(api.RivetFan) bool) {
		u := fan(at(0), at(0), slices.Clone(f.Gaps)...)
		for l := range choices(spans...) {
			u.Far, u.Near = at(l[0]), at(l[1])
			for k := range u.Gaps {
				u.Gaps[k] = arcs(l[2+2*k], l[3+2*k])
			}
			if !yield(u) {
				return
			}
		}
	}
}

// turns returns the arc of the leaf and that of the notch of a gap, divided by their distances, in a truth.
func turns(u api.RivetFan, k int) (leaf, foot *big.Rat) {
	g := u.Gaps[k]
	return big.NewRat(int64(g.Leaf.Low), int64(u.Far.Low)), big.NewRat(int64(g.Foot.Low), int64(u.Near.Low))
}

// angle returns by how much a gap opens in a truth.
func angle(u api.RivetFan, k int) *big.Rat {
	leaf, foot := turns(u, k)
	if leaf.Cmp(foot) < 0 {
		return leaf
	}
	return foot
}

// opening returns by how much a fan opens in a truth.
func opening(u api.RivetFan) *big.Rat {
	all := new(big.Rat)
	for k := range u.Gaps {
		all.Add(all, angle(u, k))
	}
	return all
}

// degrees returns an angle in degrees.
func degrees(a *big.Rat) int {
	d := new(big.Rat).Mul(a, big.NewRat(180*113, 355))
	return min(360, int(new(big.Int).Div(d.Num(), d.Denom()).Int64()))
}

// worst returns the truth in which a fan opens least, which TestAllTruths finds to be the one.
func worst(f api.RivetFan) api.RivetFan {
	u := fan(at(f.Far.High), at(f.Near.High))
	for _, g := range f.Gaps {
		u.Gaps = append(u.Gaps, arcs(g.Leaf.Low, g.Foot.Low))
	}
	return u
}

// without returns a fan without some gaps.
func without(f api.RivetFan, gaps ...int) api.RivetFan {
	left := fan(f.Far, f.Near)
	for k, g := range f.Gaps {
		if !slices.Contains(gaps, k) {
			left.Gaps = append(left.Gaps, g)
		}
	}
	return left
}

// narrowed makes a span within another one at random.
func narrowed(r *rand.Rand, s api.Span) api.Span { return anySpan(r, s.Low, s.High, s.High-s.Low) }

// moved returns a span that is some greater.
func moved(s api.Span, n int) api.Span { return to(s.Low+n, s.High+n) }

func opens(f api.RivetFan) api.Span {
	s, e := rivet.Opens(f)
	if e != api.OK {
		panic(e)
	}
	return s
}

// within reports whether a span lies within another one.
func within(s, wide api.Span) bool { return wide.Low <= s.Low && s.High <= wide.High }

// below reports whether no end of a span is above that of another one.
func below(s, other api.Span) bool { return s.Low <= other.Low && s.High <= other.High }
