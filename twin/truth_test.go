package twin_test

import (
	"math/rand"
	"slices"
	"testing"

	"panache/api"
	"panache/twin"
)

// numbersTo returns the numbers from 0 to one less than many.
func numbersTo(many int) []int {
	var l []int
	for k := range many {
		l = append(l, k)
	}
	return l
}

// listsOf returns all lists of fans, ascending each.
func listsOf(fans int) [][]int {
	var all [][]int
	for set := range 1 << fans {
		var l []int
		for k := range fans {
			if set&(1<<k) != 0 {
				l = append(l, k)
			}
		}
		all = append(all, l)
	}
	return all
}

// better reports whether a list is longer than another one, or as long and smaller.
func better(a, b []int) bool {
	return len(a) > len(b) || len(a) == len(b) && slices.Compare(a, b) < 0
}

// P9.2, P9.3, P9.4 and P9.12 against all truths.
func TestTwinsOfAllTruths(t *testing.T) {
	r := rand.New(rand.NewSource(1))
	counts, most := map[[2]bool]int{}, map[int]int{}
	for i := range 2500 {
		g, l := anyFans(r, oneOf(r, tiny, few, many))
		all := numbersTo(len(l))
		surely, possibly := true, false
		var longest []int
		patterns := make([][]int, len(g.Off))
		for u := range truths(g, l) {
			now := twinsIn(g, u, all)
			surely, possibly = surely && now, possibly || now
			for m := range g.Off {
				if now && len(l) > 0 {
					patterns[m] = append(patterns[m], patternsIn(g, u, m, all)...)
				}
			}
			for _, some := range listsOf(len(l)) {
				if better(some, longest) && twinsIn(g, u, some) {
					longest = some
				}
			}
		}
		counts[[2]bool{surely, possibly}]++
		most[len(longest)]++
		if a, b, e := twin.Twins(g, l); a != surely || b != possibly || e != api.OK {
			t.Fatal(i, g, l, a, b, e)
		}
		if found, e := twin.Most(g, l); !slices.Equal(found, longest) || e != api.OK {
			t.Fatal(i, g, l, found, e, longest)
		}
		patternAsKnown(t, g, l, patterns)
	}
	if counts[[2]bool{true, true}] < 200 || counts[[2]bool{false, true}] < 200 || counts[[2]bool{false, false}] < 200 || most[1] < 100 || most[2] < 100 || most[3] < 50 || most[5] < 50 {
		t.Error(counts, most)
	}
}

// patternAsKnown checks what the pattern can be, by all that it is in some truth.
func patternAsKnown(t *testing.T, g api.TwinGauge, l []api.TwinFan, patterns [][]int) {
	found, e := twin.Pattern(g, l)
	switch {
	case len(l) == 0:
		if len(found) != 0 || e != api.ErrNone {
			t.Fatal(g, l, found, e)
		}
	case len(patterns[0]) == 0:
		if len(found) != 0 || e != api.ErrState {
			t.Fatal(g, l, found, e)
		}
	default:
		for m, all := range patterns {
			if len(found) != len(patterns) || found[m] != hull(all) || e != api.OK {
				t.Fatal(g, l, found, e, patterns)
			}
		}
	}
}

// P9.6 against all truths.
func TestCopyOfAllTruths(t *testing.T) {
	r := rand.New(rand.NewSource(2))
	counts := map[[2]bool]int{}
	for i := range 3000 {
		g, l := anyFans(r, oneOf(r, tiny, few))
		if len(l) < 2 {
			continue
		}
		surely, possibly := true, false
		for u := range truths(g, l[:2]) {
			now := copyIn(g, u[0], u[1])
			surely, possibly = surely && now, possibly || now
		}
		counts[[2]bool{surely, possibly}]++
		if a, b, e := twin.Copy(g, l[0], l[1]); a != surely || b != possibly || e != api.OK {
			t.Fatal(i, g, l, a, b, e)
		}
	}
	if counts[[2]bool{true, true}] < 100 || counts[[2]bool{false, true}] < 200 || counts[[2]bool{false, false}] < 200 {
		t.Error(counts)
	}
}

// P9.7, P9.8, P9.9, P9.11 and P9.16 against all truths of all families.
func TestFamiliesOfAllTruths(t *testing.T) {
	r := rand.New(rand.NewSource(3))
	counts := map[string]int{}
	for range 4000 {
		g, l := anyFans(r, oneOf(r, tiny, tiny, few, few, size{fans: 4, measures: 1, off: 1, make: 3}))
		var all [][][]int
		for u := range truths(g, l) {
			all = append(all, slices.Clone(u))
		}
		var right [][]int
		for _, family := range familiesOf(len(l)) {
			if truthAsKnown(t, g, l, family, all) {
				right = append(right, family)
			}
		}
		can := fewestOriginals(right)
		familiesAsKnown(t, g, l, can, counts)
		lookAsKnown(t, g, l, can, counts, func(s api.TwinSlip, found int, family []int) bool {
			return slices.ContainsFunc(all, func(u [][]int) bool { return u[s.Fan][s.Measure] == found && rightIn(g, u, family) })
		})
	}
	if counts["one"] < 500 || counts["several"] < 500 || counts["surely"] < 500 || counts["possibly"] < 500 || counts["look"] < 100 || counts["later"] < 40 || counts["not"] < 500 {
		t.Error(counts)
	}
}

// truthAsKnown checks what fans truly are if a family is right, by all truths in which it is, and reports whether there is one.
func truthAsKnown(t *testing.T, g api.TwinGauge, l []api.TwinFan, family []int, all [][][]int) bool {
	var right [][][]int
	for _, u := range all {
		if rightIn(g, u, family) {
			right = append(right, u)
		}
	}
	found, e := twin.Truth(g, l, family)
	if len(right) == 0 {
		if len(found) != 0 || e != api.ErrState {
			t.Fatal(g, l, family, found, e)
		}
		return false
	}
	if len(found) != len(l) || e != api.OK {
		t.Fatal(g, l, family, found, e)
	}
	for f := range l {
		for m := range g.Off {
			var values []int
			for _, u := range right {
				values = append(values, u[f][m])
			}
			if len(found[f]) != len(g.Off) || found[f][m] != hull(values) {
				t.Fatal(g, l, family, found, f, m, hull(values))
			}
		}
	}
	return true
}

// familiesAsKnown checks the families that can be, and the originals of them.
func familiesAsKnown(t *testing.T, g api.TwinGauge, l []api.TwinFan, can [][]int, counts map[string]int) {
	n, first, e := twin.Families(g, l)
	if n != len(can) || !slices.Equal(first, can[0]) || e != api.OK {
		t.Fatal(g, l, n, first, e, can)
	}
	var wantSurely, wantPossibly []int
	for f := range l {
		originals := 0
		for _, family := range can {
			if family[f] == -1 {
				originals++
			}
		}
		if originals == len(can) {
			wantSurely = append(wantSurely, f)
		}
		if originals > 0 {
			wantPossibly = append(wantPossibly, f)
		}
	}
	surely, possibly, e := twin.Originals(g, l)
	if !slices.Equal(surely, wantSurely) || !slices.Equal(possibly, wantPossibly) || e != api.OK {
		t.Fatal(g, l, surely, possibly, e, can)
	}
	if len(can) == 1 {
		counts["one"]++
	} else {
		counts["several"]++
	}
	if len(surely) > 0 && len(surely) < len(l) {
		counts["surely"]++
	}
	if len(possibly) > len(surely) {
		counts["possibly"]++
	}
}

// lookAsKnown checks the measure that is best taken anew, by all that can be found: is tells whether a family is right in some truth in which a measure is what was found.
func lookAsKnown(t *testing.T, g api.TwinGauge, l []api.TwinFan, can [][]int, counts map[string]int, is func(s api.TwinSlip, found int, family []int) bool) {
	var best api.TwinSlip
	least := len(can)
	for m := range g.Off {
		for f := range l {
			most, s := 0, api.TwinSlip{Measure: m, Fan: f}
			for off := -g.Off[m]; off <= g.Off[m]; off++ {
				still := 0
				for _, family := range can {
					if is(s, l[f].Measures[m]+off, family) {
						still++
					}
				}
				most = max(most, still)
			}
			if most < least {
				best, least = s, most
			}
		}
	}
	s, left, e := twin.Look(g, l)
	if least == len(can) {
		counts["not"]++
		if s != (api.TwinSlip{}) || left != 0 || e != api.ErrNone {
			t.Fatal(g, l, s, left, e, can)
		}
		return
	}
	counts["look"]++
	if best != (api.TwinSlip{}) {
		counts["later"]++
	}
	if s != best || left != least || e != api.OK {
		t.Fatal(g, l, s, left, e, best, least, can)
	}
}

// P9.7, P9.8, P9.9, P9.11 and P9.16 for as many fans and measures as there may be, by all integers of each measure.
func TestFamiliesOfAllIntegers(t *testing.T) {
	r := rand.New(rand.NewSource(4))
	counts := map[string]int{}
	for range 300 {
		z := oneOf(r, large, size{fans: 5, measures: 2, off: 5, make: 5}, size{fans: 5, measures: 1, off: 2, make: 3})
		g, l := anyFans(r, z)
		var right [][]int
		left := map[api.TwinSlip]map[string][]int{}
		for _, family := range familiesOf(len(l)) {
			fits := truthsOfAllIntegers(g, l, family)
			if fits == nil && len(l) > 0 {
				if found, e := twin.Truth(g, l, family); len(found) != 0 || e != api.ErrState {
					t.Fatal(g, l, family, found, e)
				}
				continue
			}
			right = append(right, family)
			found, e := twin.Truth(g, l, family)
			for s, values := range fits {
				if found[s.Fan][s.Measure] != hull(values) || e != api.OK {
					t.Fatal(g, l, family, found, e, s, values)
				}
				if left[s] == nil {
					left[s] = map[string][]int{}
				}
				left[s][nameOf(family)] = values
			}
		}
		can := fewestOriginals(right)
		familiesAsKnown(t, g, l, can, counts)
		lookAsKnown(t, g, l, can, counts, func(s api.TwinSlip, found int, family []int) bool {
			return slices.Contains(left[s][nameOf(family)], found)
		})
	}
	if counts["one"] < 80 || counts["several"] < 80 || counts["look"] < 40 || counts["not"] < 80 {
		t.Error(counts)
	}
}

// nameOf returns a text that no other family has.
func nameOf(family []int) string {
	var name []byte
	for _, of := range family {
		name = append(name, byte('1'+of))
	}
	return string(name)
}

// truthsOfAllIntegers returns, for each measure of each fan, all integers that it can be if a family is right; or nil if it cannot be.
func truthsOfAllIntegers(g api.TwinGauge, l []api.TwinFan, family []int) map[api.TwinSlip][]int {
	all := map[api.TwinSlip][]int{}
	for m, c := range g.Copy {
		values := valuesOf(g, l, m, nil)
		for f := range l {
			fits := fitting(c, values, family, f, -1)
			if len(fits) == 0 {
				return nil
			}
			all[api.TwinSlip{Measure: m, Fan: f}] = fits
		}
	}
	return all
}

// P9.5 and P9.14 against all sets of measures.
func TestWrongOfAllSets(t *testing.T) {
	r := rand.New(rand.NewSource(5))
	counts, later := map[int]int{}, 0
	for i := range 1200 {
		g, l := anyFans(r, oneOf(r, size{fans: 3, measures: 2, off: 2, make: 3}, size{fans: 5, measures: 1, off: 3, make: 6}))
		found, e := twin.Wrong(g, l)
		if canBeTwins(g, l) {
			if len(found) != 0 || e != api.ErrTwice {
				t.Fatal(i, g, l, found, e)
			}
			continue
		}
		var right [][]api.TwinSlip
		for some := range sets(l) {
			if canBeTwins(g, l, some...) {
				right = append(right, some)
			}
		}
		if want := slices.MinFunc(right, fewerSlips); !slices.Equal(found, want) || e != api.OK {
			t.Fatal(i, g, l, found, e, want)
		}
		counts[len(found)]++
		if found[0] != (api.TwinSlip{}) {
			later++
		}
	}
	if counts[1] < 200 || counts[2] < 50 || counts[3] < 5 || later < 100 {
		t.Error(counts, later)
	}
}

// P9.10 and P9.14 against all sets of measures.
func TestBlameOfAllSets(t *testing.T) {
	r := rand.New(rand.NewSource(6))
	counts, later := map[int]int{}, 0
	for i := range 500 {
		g, l := anyFans(r, oneOf(r, size{fans: 3, measures: 2, off: 2, make: 3}, size{fans: 4, measures: 1, off: 3, make: 6}, size{fans: 5, measures: 1, off: 1, make: 4}))
		family := anyFamily(r, len(l))
		var right [][]api.TwinSlip
		for some := range sets(l) {
			if isRight(g, l, family, some...) {
				right = append(right, some)
			}
		}
		found, e := twin.Blame(g, l, family)
		if want := slices.MinFunc(right, fewerSlips); !slices.Equal(found, want) || e != api.OK {
			t.Fatal(i, g, l, family, found, e, want)
		}
		counts[len(found)]++
		if len(found) > 0 && found[0] != (api.TwinSlip{}) {
			later++
		}
	}
	if counts[0] < 100 || counts[1] < 50 || counts[2] < 30 || counts[3] < 5 || later < 50 {
		t.Error(counts, later)
	}
}

// P9.12: fans of one pattern.
func TestOnePattern(t *testing.T) {
	r := rand.New(rand.NewSource(7))
	sure, doubtful := 0, 0
	for i := range 3000 {
		g, truth, pattern, l := anyTwins(r, oneOf(r, tiny, large, size{fans: 5, measures: 4, off: 2, make: 100}))
		all := numbersTo(len(l))
		surely, possibly, e := twin.Twins(g, l)
		if !possibly || e != api.OK {
			t.Fatal(i, g, l, truth, surely, possibly, e)
		}
		if surely && len(l) > 1 {
			sure++
		} else if len(l) > 1 {
			doubtful++
		}
		if most, e := twin.Most(g, l); !slices.Equal(most, all) || e != api.OK {
			t.Fatal(i, g, l, most, e)
		}
		if wrong, e := twin.Wrong(g, l); len(wrong) != 0 || e != api.ErrTwice {
			t.Fatal(i, g, l, wrong, e)
		}
		if len(l) == 0 {
			continue
		}
		can, e := twin.Pattern(g, l)
		for m, n := range pattern {
			if n < can[m].Low || n > can[m].High || e != api.OK {
				t.Fatal(i, g, l, pattern, can, e)
			}
		}
	}
	if sure < 100 || doubtful < 500 {
		t.Error(sure, doubtful)
	}
}

// P9.13: fans of a family.
func TestOneFamily(t *testing.T) {
	r := rand.New(rand.NewSource(8))
	copies, fewer := 0, 0
	for i := range 1500 {
		g, truth, family, l := anyCopies(r, oneOf(r, tiny, large, size{fans: 5, measures: 4, off: 2, make: 100}))
		can, e := twin.Truth(g, l, family)
		if len(can) != len(l) || e != api.OK {
			t.Fatal(i, g, l, family, can, e)
		}
		for f, u := range truth {
			for m, n := range u {
				if n < can[f][m].Low || n > can[f][m].High {
					t.Fatal(i, g, l, family, can, truth)
				}
			}
			if family[f] < 0 {
				continue
			}
			copies++
			if _, possibly, e := twin.Copy(g, l[family[f]], l[f]); !possibly || e != api.OK {
				t.Fatal(i, g, l, family, f, e)
			}
		}
		if slips, e := twin.Blame(g, l, family); len(slips) != 0 || e != api.OK {
			t.Fatal(i, g, l, family, slips, e)
		}
		_, first, e := twin.Families(g, l)
		if originalsIn(first) > originalsIn(family) || e != api.OK {
			t.Fatal(i, g, l, family, first, e)
		}
		if originalsIn(first) < originalsIn(family) {
			fewer++
		}
	}
	if copies < 1000 || fewer < 100 {
		t.Error(copies, fewer)
	}
}

// P9.14: no more measures must be wrong than were.
func TestTakenWrong(t *testing.T) {
	r := rand.New(rand.NewSource(9))
	found, other, blamed := 0, 0, 0
	for i := range 2000 {
		g, _, family, l := anyCopies(r, large)
		twins := r.Intn(2) == 0
		if twins {
			g, _, _, l = anyTwins(r, large)
		}
		if len(l) == 0 {
			continue
		}
		var slips []api.TwinSlip
		for range between(r, 1, 2) {
			slips = append(slips, mistake(r, l, 200))
		}
		slices.SortFunc(slips, compareSlips)
		slips = slices.Compact(slips)
		if !twins {
			if wrong, e := twin.Blame(g, l, family); e != api.OK || fewerSlips(wrong, slips) > 0 {
				t.Fatal(i, g, l, family, slips, wrong, e)
			} else if slices.Equal(wrong, slips) {
				blamed++
			}
			continue
		}
		wrong, e := twin.Wrong(g, l)
		switch {
		case e == api.ErrTwice:
		case e != api.OK || len(wrong) == 0 || fewerSlips(wrong, slips) > 0:
			t.Fatal(i, g, l, slips, wrong, e)
		case slices.Equal(wrong, slips):
			found++
		default:
			other++
		}
	}
	if found < 200 || other < 50 || blamed < 100 {
		t.Error(found, other, blamed)
	}
}

// P9.15: with better gauges less can be.
func TestBetterGauges(t *testing.T) {
	r := rand.New(rand.NewSource(10))
	fewer, less, more := 0, 0, 0
	for i := range 2000 {
		g, l := anyFans(r, oneOf(r, tiny, few, large))
		better, other := gauges(g), []api.TwinFan{}
		for m := range g.Off {
			better.Off[m] = between(r, 0, g.Off[m])
		}
		for _, a := range l {
			var b api.TwinFan
			for m, n := range a.Measures {
				spare := g.Off[m] - better.Off[m]
				b.Measures = append(b.Measures, max(0, min(api.MaxTwinLong, n+between(r, -spare, spare))))
			}
			other = append(other, b)
		}
		for range 20 {
			family := anyFamily(r, len(l))
			_, before := twin.Truth(g, l, family)
			if _, after := twin.Truth(better, other, family); before == api.ErrState && after != api.ErrState {
				t.Fatal(i, g, l, better, other, family)
			} else if before == api.OK && after == api.ErrState {
				fewer++
			}
		}
		before, e := twin.Most(g, l)
		after, f := twin.Most(better, other)
		if len(after) > len(before) || e != api.OK || f != api.OK {
			t.Fatal(i, g, l, better, other, before, after, e, f)
		}
		if len(after) < len(before) {
			less++
		}
		wrong, e := twin.Wrong(g, l)
		still, f := twin.Wrong(better, other)
		if len(still) < len(wrong) || e == api.OK && f != api.OK {
			t.Fatal(i, g, l, better, other, wrong, still, e, f)
		}
		if len(still) > len(wrong) {
			more++
		}
	}
	if fewer < 500 || less < 100 || more < 100 {
		t.Error(fewer, less, more)
	}
}
