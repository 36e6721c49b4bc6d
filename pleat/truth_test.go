package pleat_test

import (
	"math/rand"
	"slices"
	"testing"

	"panache/api"
	"panache/pleat"
	"panache/sets"
)

// seen is what all truths of a leaf say about a shift, looked at one after another as the chapter says them.
type seen struct {
	surely, possibly []int // faces on a fold
	all, some        bool  // whether all faces are spared, surely and possibly
}

func lookAtAll(l api.PleatLeaf, m api.PleatMould, shift int) seen {
	w := seen{all: true}
	truth, on := 0, make([]int, len(l.Faces))
	for u := range truths(l) {
		truth++
		h := hits(m, shift, u)
		for _, k := range h {
			on[k]++
		}
		w.all = w.all && len(h) == 0
		w.some = w.some || len(h) == 0
	}
	for k, n := range on {
		if n == truth {
			w.surely = append(w.surely, k)
		}
		if n > 0 {
			w.possibly = append(w.possibly, k)
		}
	}
	return w
}

// lookAtShifts is what all truths say about each shift.
func lookAtShifts(l api.PleatLeaf, m api.PleatMould) []seen {
	var all []seen
	for shift := range m.Play + 1 {
		all = append(all, lookAtAll(l, m, shift))
	}
	return all
}

// where returns the shifts for which something was seen.
func where(all []seen, is func(w seen) bool) []int {
	var l []int
	for shift, w := range all {
		if is(w) {
			l = append(l, shift)
		}
	}
	return l
}

func surelyAll(w seen) bool { return w.all }

// P3.2, P3.3, P3.5 and P3.11 against all truths of small leaves.
func TestAllTruths(t *testing.T) {
	r := rand.New(rand.NewSource(1))
	counts := map[bool]int{}
	for i := range 1500 {
		l, m := anyBed(r, small)
		all := lookAtShifts(l, m)
		best := 0
		for shift, w := range all {
			surely, possibly, e := pleat.Hit(l, m, shift)
			if !slices.Equal(surely, w.surely) || !slices.Equal(possibly, w.possibly) || e != api.OK {
				t.Fatal(i, l, m, shift, surely, possibly, e)
			}
			if len(w.possibly) < len(all[best].possibly) {
				best = shift
			}
		}
		surely, possibly, e := pleat.Shifts(l, m)
		a, aOK := numbers(surely)
		b, bOK := numbers(possibly)
		if !aOK || !bOK || !slices.Equal(a, where(all, surelyAll)) || !slices.Equal(b, where(all, func(w seen) bool { return w.some })) || e != api.OK {
			t.Fatal(i, l, m, surely, possibly, e)
		}
		counts[len(a) == len(b)]++
		if shift, faces, e := pleat.Best(l, m); shift != best || faces != len(l.Faces)-len(all[best].possibly) || e != api.OK {
			t.Fatal(i, l, m, shift, faces, e)
		}
	}
	if counts[true] < 200 || counts[false] < 200 {
		t.Error(counts)
	}
}

// P3.4 and P3.12: all sets of faces are tried.
func TestAgainstAll(t *testing.T) {
	r := rand.New(rand.NewSource(2))
	counts := map[int]int{}
	for i := range 4000 {
		z := size{long: 30, faces: 5, doubt: 2, grooves: 4, half: 3, play: 6}
		if i%2 == 0 {
			z = size{long: 14, faces: 8, doubt: 1, grooves: 1, half: 1, play: 6} // more faces are needed here
		}
		l, m := anyBed(r, z)
		all := lookAtShifts(l, m)
		var want []int
		for set := range 1 << len(l.Faces) {
			faces := sets.Members(set)
			meets := func(w seen) bool {
				return slices.ContainsFunc(w.possibly, func(k int) bool { return slices.Contains(faces, k) })
			}
			if len(where(all, meets)) == m.Play+1 && (want == nil || sets.Fewer(faces, want) < 0) {
				want = faces
			}
		}
		counts[len(want)]++
		got, e := pleat.Against(l, m)
		if !slices.Equal(got, want) || (e == api.OK) != (want != nil) || e != api.OK && e != api.ErrNone {
			t.Fatal(i, l, m, got, want, e)
		}
		for k := range got {
			some := only(l, slices.Delete(slices.Clone(got), k, k+1))
			if surely, _, _ := pleat.Shifts(some, m); len(surely) == 0 {
				t.Fatal(i, l, m, got, "without", k)
			}
		}
	}
	if counts[0] < 300 || counts[1] < 300 || counts[2] < 100 || counts[3] < 20 {
		t.Error(counts)
	}
}

// P3.6: a margin holds if the shift spares all when folds take so much more, and no shift does if they take one more still.
func TestMarginIsGreatest(t *testing.T) {
	r := rand.New(rand.NewSource(3))
	counts := map[api.Errno]int{}
	spares := func(l api.PleatLeaf, m api.PleatMould, margin int) []int {
		m.Half += margin // the mould may not be valid any more
		return where(lookAtShifts(l, m), surelyAll)
	}
	for i := range 1500 {
		l, m := anyBed(r, small)
		shift, margin, e := pleat.Margin(l, m)
		counts[e]++
		if e != api.OK {
			if e != api.ErrNone || len(spares(l, m, 0)) > 0 {
				t.Fatal(i, l, m, shift, margin, e)
			}
			continue
		}
		if now := spares(l, m, margin); len(now) == 0 || now[0] != shift || margin < 5000 && len(spares(l, m, margin+1)) > 0 || margin > 5000 {
			t.Fatal(i, l, m, shift, margin, now)
		}
	}
	if counts[api.OK] < 300 || counts[api.ErrNone] < 300 {
		t.Error(counts)
	}
}

// P3.7
func TestChooseOfAny(t *testing.T) {
	r := rand.New(rand.NewSource(4))
	for i := range 500 {
		l := anyLeaf(r, small)
		var moulds []api.PleatMould
		best, most := 0, 0
		for k := range between(r, 0, api.MaxPleatMoulds) {
			moulds = append(moulds, anyMould(r, small))
			if n := len(where(lookAtShifts(l, moulds[k]), surelyAll)); n > most {
				best, most = k, n
			}
		}
		mould, shifts, e := pleat.Choose(l, moulds)
		if mould != best || shifts != most || (e == api.OK) != (most > 0) || e != api.OK && e != api.ErrNone {
			t.Fatal(i, l, moulds, mould, shifts, e)
		}
	}
}

// anySeen makes signs at random, of which it does not matter whether they can be seen.
func anySeen(r *rand.Rand, n int) []api.PleatSign {
	var l []api.PleatSign
	for range n {
		l = append(l, api.PleatSign(r.Intn(3)))
	}
	return l
}

// P3.8, P3.9 and P3.14 against all truths with all shifts.
func TestLaidOfAll(t *testing.T) {
	r := rand.New(rand.NewSource(5))
	counts := map[api.Errno]int{}
	for i := range 1000 {
		l, m := anyBed(r, small)
		seen := anySeen(r, len(l.Faces))
		want := laid(l, m, seen)
		spans, e := pleat.Laid(l, m, seen)
		got, ok := numbers(spans)
		if !ok || !slices.Equal(got, want) || (e == api.OK) != (len(want) > 0) || e != api.OK && e != api.ErrState {
			t.Fatal(i, l, m, seen, spans, e)
		}
		best, least := 0, len(want)
		for k := range seen {
			if seen[k] != api.PleatUnseen {
				continue
			}
			most := 0
			for _, sign := range []api.PleatSign{api.PleatHit, api.PleatSpared} {
				next := slices.Clone(seen)
				next[k] = sign
				most = max(most, len(laid(l, m, next)))
			}
			if most < least {
				best, least = k, most
			}
		}
		face, left, none := pleat.Look(l, m, seen)
		counts[none]++
		switch {
		case e != api.OK:
			ok = none == e
		case least == len(want):
			ok = none == api.ErrNone
		default:
			ok = face == best && left == least && none == api.OK
		}
		if !ok {
			t.Fatal(i, l, m, seen, face, left, none)
		}
	}
	if counts[api.OK] < 100 || counts[api.ErrNone] < 100 || counts[api.ErrState] < 50 {
		t.Error(counts)
	}
}

// P3.14: what can be seen with a shift leaves that shift, also of large leaves.
func TestLaidHasTheShift(t *testing.T) {
	r := rand.New(rand.NewSource(6))
	looks := 0
	for i := range 1000 {
		l, m := anyBed(r, large)
		seen, shift := anySigns(r, l, m)
		spans, e := pleat.Laid(l, m, seen)
		now, ok := numbers(spans)
		if !ok || !slices.Contains(now, shift) || e != api.OK {
			t.Fatal(i, l, m, seen, shift, spans, e)
		}
		face, left, e := pleat.Look(l, m, seen)
		if e != api.OK {
			continue
		}
		looks++
		for _, sign := range []api.PleatSign{api.PleatHit, api.PleatSpared} {
			seen[face] = sign
			spans, _ := pleat.Laid(l, m, seen)
			if next, _ := numbers(spans); len(next) > left || left >= len(now) {
				t.Fatal(i, l, m, seen, face, left, next)
			}
		}
	}
	if looks < 150 {
		t.Error(looks)
	}
}

// compared is what P3.13 compares.
type compared struct {
	surely, possibly []int
	best             int
	margin           int // -1 if there is none
}

func compare(l api.PleatLeaf, m api.PleatMould) compared {
	var c compared
	surely, possibly, _ := pleat.Shifts(l, m)
	c.surely, _ = numbers(surely)
	c.possibly, _ = numbers(possibly)
	_, c.best, _ = pleat.Best(l, m)
	_, margin, e := pleat.Margin(l, m)
	c.margin = margin
	if e != api.OK {
		c.margin = -1
	}
	return c
}

// allIn reports whether all elements of a list are in another one.
func allIn(now, then []int) bool {
	return !slices.ContainsFunc(now, func(n int) bool { return !slices.Contains(then, n) })
}

// spanWithin is a span at random that is in another one.
func spanWithin(r *rand.Rand, s api.Span) api.Span {
	low := between(r, s.Low, s.High)
	return to(low, between(r, low, s.High))
}

// P3.13
func TestMoreAndLess(t *testing.T) {
	r := rand.New(rand.NewSource(7))
	for i := range 1500 {
		z := small
		if i%5 == 0 {
			z = size{long: 300, faces: 8, doubt: 10, grooves: 10, half: 9, play: 40}
		}
		l, m := anyBed(r, z)
		if len(l.Faces) == 0 {
			continue
		}
		now := compare(l, m)
		narrow := leaf(l.Long)
		for _, f := range l.Faces {
			narrow.Faces = append(narrow.Faces, face(spanWithin(r, f.Left), spanWithin(r, f.Right)))
		}
		k := r.Intn(len(l.Faces))
		smaller, fewer := m, m
		smaller.Half = between(r, 0, m.Half)
		if n := len(m.Grooves); n > 1 {
			fewer.Grooves = slices.Clone(m.Grooves)
			g := r.Intn(n)
			fewer.Grooves = slices.Delete(fewer.Grooves, g, g+1)
		}
		for n, then := range []compared{compare(without(l, k), m), compare(narrow, m), compare(l, smaller), compare(l, fewer)} {
			best := now.best
			if n == 0 {
				shift, _, _ := pleat.Best(l, m)
				if _, possibly, _ := pleat.Hit(l, m, shift); !slices.Contains(possibly, k) {
					best-- // of the faces that are left
				}
			}
			// With fewer truths each sure shift is left, but possible ones can be lost: these are not compared for narrower spans.
			if !allIn(now.surely, then.surely) || n != 1 && !allIn(now.possibly, then.possibly) || then.best < best || then.margin < now.margin {
				t.Fatal(i, n, l, m, now, then)
			}
		}
	}
}

// turned returns a leaf and a mould that are turned around.
func turned(l api.PleatLeaf, m api.PleatMould) (api.PleatLeaf, api.PleatMould) {
	back := leaf(l.Long)
	for _, f := range l.Faces {
		back.Faces = append(back.Faces, face(to(l.Long-f.Right.High, l.Long-f.Right.Low), to(l.Long-f.Left.High, l.Long-f.Left.Low)))
	}
	turn := mould(m.Half, m.Room, m.Play)
	for _, g := range slices.Backward(m.Grooves) {
		turn.Grooves = append(turn.Grooves, l.Long-g-m.Play)
	}
	return back, turn
}

// P3.15
func TestFromTheOtherSide(t *testing.T) {
	r := rand.New(rand.NewSource(8))
	tried := 0
	for i := range 3000 {
		z := size{long: 60, faces: 5, doubt: 4, grooves: 3, half: 3, play: 14}
		if i%3 == 0 {
			z = large
		}
		l, m := anyBed(r, z)
		back, turn := turned(l, m)
		if pleat.Mould(turn) != api.OK {
			continue
		}
		tried++
		for shift := range m.Play + 1 {
			a, b, _ := pleat.Hit(l, m, shift)
			c, d, e := pleat.Hit(back, turn, m.Play-shift)
			if !slices.Equal(a, c) || !slices.Equal(b, d) || e != api.OK {
				t.Fatal(i, l, m, shift, a, b, c, d, e)
			}
		}
		a, b, _ := pleat.Shifts(l, m)
		c, d, e := pleat.Shifts(back, turn)
		for _, spans := range [][]api.Span{c, d} {
			slices.Reverse(spans)
			for k, s := range spans {
				spans[k] = to(m.Play-s.High, m.Play-s.Low)
			}
		}
		if !slices.Equal(a, c) || !slices.Equal(b, d) || e != api.OK {
			t.Fatal(i, l, m, a, b, c, d, e)
		}
	}
	if tried < 500 {
		t.Error(tried)
	}
}

// P3.10: each place of each truth lies in the spans of the wet leaf, whatever it was stretched by; and the spans are no wider.
func TestWetPlaces(t *testing.T) {
	r := rand.New(rand.NewSource(9))
	counts := map[api.Errno]int{}
	for i := range 3000 {
		l := anyLeaf(r, size{long: 3000, faces: 4, doubt: 9})
		least := ratio(0, between(r, 1, 1000))
		least.Num = between(r, max(1, least.Den/2), 2*least.Den)
		most := ratio(0, between(r, 1, 1000))
		most.Num = between(r, (least.Num*most.Den+least.Den-1)/least.Den, 2*most.Den)
		if most.Num > 2*most.Den {
			continue
		}
		wet, e := pleat.Wet(l, least, most)
		counts[e]++
		if e != api.OK {
			continue
		}
		for k, f := range l.Faces {
			for n, s := range []api.Span{f.Left, f.Right} {
				w := []api.Span{wet.Faces[k].Left, wet.Faces[k].Right}[n]
				// low <= place * least < low + 1, and high - 1 < place * most <= high
				low := w.Low*least.Den <= s.Low*least.Num && s.Low*least.Num < (w.Low+1)*least.Den
				high := (w.High-1)*most.Den < s.High*most.Num && s.High*most.Num <= w.High*most.Den
				if !low || !high {
					t.Fatal(i, l, least, most, wet)
				}
			}
		}
		if (wet.Long-1)*most.Den >= l.Long*most.Num || l.Long*most.Num > wet.Long*most.Den || pleat.Check(wet) != api.OK {
			t.Fatal(i, l, least, most, wet)
		}
	}
	if counts[api.OK] < 300 || counts[api.ErrFull] < 100 || counts[api.ErrState] < 100 || len(counts) != 3 {
		t.Error(counts)
	}
}
