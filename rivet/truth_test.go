package rivet_test

import (
	"math/big"
	"math/rand"
	"slices"
	"testing"

	"panache/api"
	"panache/rivet"
	"panache/sets"
)

// extremes are the least and the greatest one of some numbers.
type extremes struct{ least, most *big.Rat }

func (x *extremes) add(n *big.Rat) {
	if x.least == nil || n.Cmp(x.least) < 0 {
		x.least = n
	}
	if x.most == nil || n.Cmp(x.most) > 0 {
		x.most = n
	}
}

// openings returns how far a fan opens at both ends of all its truths.
func openings(f api.RivetFan) extremes {
	var x extremes
	for u := range truths(f) {
		x.add(opening(u))
	}
	return x
}

// stopOf returns what stops a gap, by all truths.
func stopOf(f api.RivetFan, k int) api.RivetStop {
	byLeaf, byFoot := true, true
	for u := range truths(f) {
		l, n := turns(u, k)
		byLeaf = byLeaf && l.Cmp(n) < 0
		byFoot = byFoot && n.Cmp(l) < 0
	}
	switch {
	case byLeaf:
		return leaf
	case byFoot:
		return foot
	}
	return open
}

// P5.2, P5.3 and P5.12 against all truths of small fans.
func TestAllTruths(t *testing.T) {
	r := rand.New(rand.NewSource(1))
	stops := map[api.RivetStop]int{}
	for i := range 400 {
		f := anyFan(r, small)
		x := openings(f)
		if s, e := rivet.Opens(f); s != to(degrees(x.least), degrees(x.most)) || e != api.OK || x.least.Cmp(opening(worst(f))) != 0 {
			t.Fatal(i, f, s, e, x)
		}
		l, e := rivet.Stops(f)
		if len(l) != len(f.Gaps) || e != api.OK {
			t.Fatal(i, f, l, e)
		}
		for k, stop := range l {
			stops[stop]++
			if stop != stopOf(f, k) {
				t.Fatal(i, f, l)
			}
		}
	}
	if stops[leaf] < 50 || stops[foot] < 50 || stops[open] < 50 {
		t.Error(stops)
	}
}

// P5.2 against fractions, for fans of which all can be known.
func TestOpensOfKnown(t *testing.T) {
	r := rand.New(rand.NewSource(2))
	round := 0
	for i := range 3000 {
		f := worst(anyFan(r, large))
		n := degrees(opening(f))
		if s, e := rivet.Opens(f); s != at(n) || e != api.OK {
			t.Fatal(i, f, s, n, e)
		}
		if n == 360 {
			round++
		}
	}
	if round < 200 || round > 2800 {
		t.Error(round)
	}
}

// P5.4 and P5.13 against all truths of both fans: one opens farther in all of them if it does where it opens least, and the other one most.
func TestCompareAllTruths(t *testing.T) {
	r := rand.New(rand.NewSource(3))
	counts := map[api.RivetMore]int{}
	for i := range 300 {
		a, b := anyFan(r, small), anyFan(r, small)
		if i%3 == 0 {
			b = a // they have a truth each, all the same
		}
		x, y := openings(a), openings(b)
		want := api.RivetEither
		if x.least.Cmp(y.most) > 0 {
			want = api.RivetFirst
		} else if y.least.Cmp(x.most) > 0 {
			want = api.RivetSecond
		}
		got, e := rivet.Compare(a, b)
		if got != want || e != api.OK {
			t.Fatal(i, a, b, got, e)
		}
		counts[got]++
		if got == api.RivetFirst && opens(a).Low < opens(b).High || got == api.RivetSecond && opens(b).Low < opens(a).High {
			t.Fatal(i, a, b, "fewer degrees")
		}
	}
	if counts[api.RivetFirst] < 30 || counts[api.RivetSecond] < 30 || counts[api.RivetEither] < 120 {
		t.Error(counts)
	}
}

// P5.4: fans that open to the same degrees, or beyond 360, are told apart exactly.
func TestCompareIsExact(t *testing.T) {
	r := rand.New(rand.NewSource(4))
	same := 0
	for i := range 2000 {
		a := worst(someFan(r, large))
		b := fan(a.Far, a.Near, slices.Clone(a.Gaps)...)
		k := r.Intn(len(b.Gaps))
		b.Gaps[k] = arcs(between(r, 0, b.Gaps[k].Leaf.Low), between(r, 0, b.Gaps[k].Foot.Low))
		want := api.RivetEither
		if opening(a).Cmp(opening(b)) > 0 {
			want = api.RivetFirst
		}
		if got, e := rivet.Compare(a, b); got != want || e != api.OK {
			t.Fatal(i, a, b, got, e)
		}
		if want == api.RivetFirst && opens(a) == opens(b) {
			same++
		}
	}
	if same < 100 {
		t.Error(same)
	}
}

// P5.5 by widening each gap, also beyond the limits.
func TestWidenOfAll(t *testing.T) {
	r := rand.New(rand.NewSource(5))
	counts := map[bool]int{}
	for i := range 1500 {
		z := []size{small, middle, large}[i%3]
		f, more := someFan(r, z), between(r, 0, z.leaf)
		gap, most := 0, -1
		for k := range f.Gaps {
			u := worst(f)
			u.Gaps[k].Leaf = moved(u.Gaps[k].Leaf, more)
			if n := degrees(opening(u)); n > most {
				gap, most = k, n
			}
		}
		g, n, e := rivet.Widen(f, more)
		if g != gap || n != most || e != api.OK {
			t.Fatal(i, f, more, g, n, e)
		}
		counts[g > 0]++
	}
	if counts[true] < 200 || counts[false] < 200 {
		t.Error(counts)
	}
}

// can reports whether a fan can have been seen to open so if some of its gaps are measured wrong.
func can(f api.RivetFan, gaps []int, seen api.Span) bool {
	s := opens(without(f, gaps...))
	if len(gaps) > 0 {
		s.High = 360
	}
	return s.Low <= seen.High && seen.Low <= s.High
}

// fewestWrong tries all sets of gaps.
func fewestWrong(f api.RivetFan, seen api.Span) ([]int, api.Errno) {
	var fewest []int
	found := false
	for set := range 1 << len(f.Gaps) {
		if gaps := sets.Members(set); can(f, gaps, seen) && (!found || sets.Fewer(gaps, fewest) < 0) {
			fewest, found = gaps, true
		}
	}
	switch {
	case !found:
		return nil, api.ErrState
	case len(fewest) == 0:
		return nil, api.ErrNone
	}
	return fewest, api.OK
}

// P5.6 and P5.14: all sets of gaps are tried.
func TestWrongOfAllSets(t *testing.T) {
	r := rand.New(rand.NewSource(6))
	many, errors := map[int]int{}, map[api.Errno]int{}
	for i := range 2000 {
		f := anyFan(r, middle)
		seen := anySpan(r, 0, min(360, opens(f).High+5), 9)
		if i%3 == 0 {
			f = fan(at(100), at(1)) // whose angles are often equal
			for range between(r, 3, 8) {
				f.Gaps = append(f.Gaps, arcs(between(r, 0, 5), 9))
			}
			seen = anySpan(r, 0, opens(f).Low, 1)
		}
		want, e := fewestWrong(f, seen)
		got, g := rivet.Wrong(f, seen)
		if !slices.Equal(got, want) || g != e {
			t.Fatal(i, f, seen, got, want, g, e)
		}
		if g == api.OK && opens(without(f, got...)).Low > seen.High {
			t.Fatal(i, f, seen, got, "not enough")
		}
		many[len(got)]++
		errors[g]++
	}
	for k := range 5 {
		if many[k] < 50 {
			t.Error(many)
		}
	}
	if errors[api.ErrState] < 10 || errors[api.ErrNone] < 100 {
		t.Error(errors)
	}
}

// P5.14: with many gaps, too, those of Wrong are enough, and none of them can be right.
func TestWrongOfMany(t *testing.T) {
	r := rand.New(rand.NewSource(7))
	most := 0
	for i := range 500 {
		f := someFan(r, large)
		seen := anySpan(r, 0, opens(f).Low, 20)
		gaps, e := rivet.Wrong(f, seen)
		if e == api.ErrNone && can(f, nil, seen) {
			continue
		}
		if e != api.OK || !can(f, gaps, seen) || !slices.IsSorted(gaps) {
			t.Fatal(i, f, seen, gaps, e)
		}
		for k := range gaps {
			if can(f, slices.Delete(slices.Clone(gaps), k, k+1), seen) && len(gaps) > 1 {
				t.Fatal(i, f, seen, gaps, "without", k)
			}
		}
		most = max(most, len(gaps))
	}
	if most < 25 {
		t.Error(most)
	}
}

// P5.7 and P5.15: by trying one number of sticks after another.
func TestSticksOneByOne(t *testing.T) {
	r := rand.New(rand.NewSource(8))
	counts := map[api.Errno]int{}
	for i := range 900 {
		f, wanted := someFan(r, []size{small, middle, large}[i%3]), between(r, 0, 360)
		enough := func(sticks int) bool {
			return opens(fan(f.Far, f.Near, slices.Repeat(f.Gaps[:1], sticks-1)...)).Low >= wanted
		}
		want := 1
		for want <= 41 && !enough(want) {
			want++
		}
		n, e := rivet.Sticks(f, wanted)
		counts[e]++
		if want <= 41 && (n != want || e != api.OK) || want > 41 && (n != 0 || e != api.ErrNone) {
			t.Fatal(i, f, wanted, n, e)
		}
	}
	if counts[api.OK] < 200 || counts[api.ErrNone] < 200 {
		t.Error(counts)
	}
}

// P5.8 and P5.15: by trying one arc after another.
func TestPleatOneByOne(t *testing.T) {
	r := rand.New(rand.NewSource(9))
	counts := map[api.Errno]int{}
	for i := range 300 {
		f := someFan(r, []size{small, middle, large}[i%3])
		wanted := between(r, 0, min(360, 2*opens(f).Low+5))
		enough := func(arc int) bool {
			g := fan(f.Far, f.Near, slices.Clone(f.Gaps)...)
			for k := range g.Gaps {
				g.Gaps[k].Leaf = at(arc)
			}
			return opens(g).Low >= wanted
		}
		want := 0
		for want <= 1000 && !enough(want) {
			want++
		}
		n, e := rivet.Pleat(f, wanted)
		counts[e]++
		if want <= 1000 && (n != want || e != api.OK) || want > 1000 && (n != 0 || e != api.ErrNone) {
			t.Fatal(i, f, wanted, n, e)
		}
	}
	if counts[api.OK] < 100 || counts[api.ErrNone] < 20 {
		t.Error(counts)
	}
}

// P5.12: with narrower spans no end is farther out; and what opens a fan less, or not less.
func TestOpensMoreOrLess(t *testing.T) {
	r := rand.New(rand.NewSource(10))
	for i := range 2000 {
		f := someFan(r, []size{small, middle, large}[i%3])
		s := opens(f)
		g := fan(narrowed(r, f.Far), narrowed(r, f.Near))
		for _, one := range f.Gaps {
			g.Gaps = append(g.Gaps, gap(narrowed(r, one.Leaf), narrowed(r, one.Foot)))
		}
		if !within(opens(g), s) {
			t.Fatal(i, f, g, "narrower")
		}
		k := r.Intn(len(f.Gaps))
		if !below(opens(without(f, k)), s) {
			t.Fatal(i, f, k, "a gap more")
		}
		for _, c := range changes(r, f, k) {
			if rivet.Check(c.f) != api.OK {
				continue
			}
			if c.less && !below(opens(c.f), s) || !c.less && !below(s, opens(c.f)) {
				t.Fatal(i, f, c)
			}
		}
	}
}

// change is a fan that was changed, and whether it should not open more, or not less.
type change struct {
	f    api.RivetFan
	less bool
}

func changes(r *rand.Rand, f api.RivetFan, k int) []change {
	n := between(r, 1, 20)
	wider, deeper := fan(f.Far, f.Near, slices.Clone(f.Gaps)...), fan(f.Far, f.Near, slices.Clone(f.Gaps)...)
	wider.Gaps[k].Leaf = moved(f.Gaps[k].Leaf, n)
	deeper.Gaps[k].Foot = moved(f.Gaps[k].Foot, n)
	return []change{
		{wider, false}, {deeper, false},
		{fan(moved(f.Far, n), f.Near, f.Gaps...), true}, {fan(f.Far, moved(f.Near, n), f.Gaps...), true},
	}
}

// P5.13: what surely does not stop a gap can be wider without opening it farther.
func TestWhatDoesNotStop(t *testing.T) {
	r := rand.New(rand.NewSource(11))
	counts := map[api.RivetStop]int{}
	for i := range 1500 {
		f := someFan(r, []size{small, middle, large}[i%3])
		stops, _ := rivet.Stops(f)
		for k, stop := range stops {
			g := fan(f.Far, f.Near, f.Gaps[k])
			wider := fan(f.Far, f.Near, slices.Clone(g.Gaps)...)
			switch stop {
			case foot:
				wider.Gaps[0].Leaf.High = between(r, wider.Gaps[0].Leaf.High, api.MaxRivetLeaf)
				wider.Gaps[0].Leaf.Low = between(r, wider.Gaps[0].Leaf.Low, wider.Gaps[0].Leaf.High)
			case leaf:
				wider.Gaps[0].Foot.High = between(r, wider.Gaps[0].Foot.High, api.MaxRivetFoot)
				wider.Gaps[0].Foot.Low = between(r, wider.Gaps[0].Foot.Low, wider.Gaps[0].Foot.High)
			}
			counts[stop]++
			if opens(wider) != opens(g) {
				t.Fatal(i, g, wider, stop)
			}
		}
	}
	if counts[leaf] < 500 || counts[foot] < 500 {
		t.Error(counts)
	}
}

// rat returns a ratio as one of math/big, which is in lowest terms.
func rat(r api.Ratio) *big.Rat { return big.NewRat(int64(r.Num), int64(r.Den)) }

// lowest returns a number of math/big as a ratio.
func lowest(r *big.Rat) api.Ratio { return ratio(int(r.Num().Int64()), int(r.Denom().Int64())) }

// balances returns where sticks balance at both ends of all weights.
func balances(l []api.RivetStick, weights []api.Span) extremes {
	var x extremes
	for w := range choices(weights...) {
		turn, all := 0, 0
		for k, s := range l {
			turn += w[k] * s.Place
			all += w[k]
		}
		x.add(big.NewRat(int64(turn), int64(all)))
	}
	return x
}

// total returns the least and the greatest sum of numbers of spans, by trying all of them.
func total(spans []api.Span) api.Span {
	first := true
	var s api.Span
	for l := range choices(spans...) {
		all := 0
		for _, n := range l {
			all += n
		}
		if first {
			s, first = at(all), false
		}
		s = to(min(s.Low, all), max(s.High, all))
	}
	return s
}

// P5.9, P5.10, P5.11 and P5.16 against all truths of few sticks.
func TestClosedAllTruths(t *testing.T) {
	r := rand.New(rand.NewSource(12))
	held := map[[2]bool]int{}
	for i := range 600 {
		l := anySticks(r, small)
		if r.Intn(3) == 0 { // several at one place
			for k := range l {
				l[k].Place %= 3
			}
		}
		var weights, thicks []api.Span
		for _, s := range l {
			weights, thicks = append(weights, s.Weight), append(thicks, s.Thick)
		}
		weight, thick, e := rivet.Closed(l)
		if weight != total(weights) || thick != total(thicks) || e != api.OK {
			t.Fatal(i, l, weight, thick, e)
		}
		long := anySpan(r, max(0, thick.Low-3), thick.High+3, 5)
		surely, possibly := true, false
		for n := range choices(long, total(thicks)) {
			surely, possibly = surely && n[0] >= n[1], possibly || n[0] >= n[1]
		}
		held[[2]bool{surely, possibly}]++
		if a, b, e := rivet.Holds(l, long); a != surely || b != possibly || e != api.OK {
			t.Fatal(i, l, long, a, b, e)
		}
		if len(l) == 0 {
			continue
		}
		x := balances(l, weights)
		if least, most, e := rivet.Balance(l); least != lowest(x.least) || most != lowest(x.most) || e != api.OK {
			t.Fatal(i, l, least, most, e)
		}
	}
	if held[[2]bool{true, true}] < 50 || held[[2]bool{false, true}] < 50 || held[[2]bool{false, false}] < 30 {
		t.Error(held)
	}
}

// P5.10 against all choices of the ends of all weights, and P5.16 for a stick more.
func TestBalanceOfMany(t *testing.T) {
	r := rand.New(rand.NewSource(13))
	for i := range 60 {
		z := large
		z.sticks, z.doubt = 10, api.MaxRivetWeight
		l := append(anySticks(r, z), anyStick(r, z))
		// An end is where each weight is at one of its ends: 0 or 1 says which.
		var x extremes
		for set := range 1 << len(l) {
			var ends []api.Span
			for k, s := range l {
				ends = append(ends, at([]int{s.Weight.Low, s.Weight.High}[set>>k&1]))
			}
			x.add(balances(l, ends).least)
		}
		least, most, e := rivet.Balance(l)
		if least != lowest(x.least) || most != lowest(x.most) || e != api.OK {
			t.Fatal(i, l, least, most, e)
		}
		more := anyStick(r, z)
		more.Place = between(r, (most.Num+most.Den-1)/most.Den, api.MaxRivetFar)
		a, b, e := rivet.Balance(append(l, more))
		if rat(a).Cmp(rat(least)) < 0 || rat(b).Cmp(rat(most)) < 0 || e != api.OK {
			t.Fatal(i, l, more, a, b, e)
		}
	}
}
