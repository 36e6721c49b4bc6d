package outwork_test

import (
	"math/rand"
	"slices"
	"testing"

	"panache/api"
	"panache/outwork"
	"panache/sets"
)

// known is what is found by looking at all truths of a book.
type known struct {
	any              bool
	has              [api.MaxOutworkWorkers][api.MaxOutworkStuffs]seen
	home, fans, lost [api.MaxOutworkStuffs]seen
	above            [api.MaxOutworkWorkers]seen // the most of any stuff
	surely, possibly [api.MaxOutworkWorkers]seen // for how many fans it is enough
}

// fansFor returns the greatest number of fans for which what is at home is enough, if each takes as much.
func fansFor(l [api.MaxOutworkStuffs]flow, takes []int) int {
	for fans := range api.MaxOutworkFans {
		for stuff, n := range takes {
			if (fans+1)*n > l[stuff].home() {
				return fans
			}
		}
	}
	return api.MaxOutworkFans
}

func (k *known) look(h api.OutworkHouse, u truth) {
	k.any = true
	var least, most []int
	for stuff, each := range h.Takes {
		least, most = append(least, each.Low), append(most, each.High)
		home, fans, lost := 0, 0, 0
		for worker := range u {
			f := u[worker][stuff]
			k.has[worker][stuff].add(f.home())
			home, fans, lost = home+f.home(), fans+f.fans, lost+f.lost
		}
		k.home[stuff].add(home)
		k.fans[stuff].add(fans)
		k.lost[stuff].add(lost)
	}
	for worker, l := range u {
		above := 0
		for _, f := range l {
			above = max(above, f.home())
		}
		k.above[worker].add(above)
		k.surely[worker].add(fansFor(l, most))
		k.possibly[worker].add(fansFor(l, least))
	}
}

// P7.2 to P7.5, P7.12 and P7.13 against all truths of small books.
func TestAllTruths(t *testing.T) {
	r := rand.New(rand.NewSource(1))
	counts := map[string]int{}
	for i := range 1500 {
		h, b := anySmall(r, 4)
		var k known
		for u := range truths(h, b) {
			k.look(h, u)
		}
		if !k.any {
			counts["none"]++
			allErrors(t, h, b)
			continue
		}
		for worker := range api.MaxOutworkWorkers {
			l, e := outwork.Has(h, b, worker)
			if len(l) != len(h.Takes) || e != api.OK {
				t.Fatal(i, h, b, worker, l, e)
			}
			for stuff, s := range l {
				if s != k.has[worker][stuff].is {
					t.Fatal(i, h, b, worker, l, k.has)
				}
				if s.Low > 0 {
					counts["low"]++
				}
			}
			surely, possibly, e := outwork.Fans(h, b, worker)
			if surely != k.surely[worker].is.Low || possibly != k.possibly[worker].is.High || e != api.OK {
				t.Fatal(i, h, b, worker, surely, possibly, e, k.surely, k.possibly)
			}
			if surely > 0 && surely < possibly && possibly < api.MaxOutworkFans {
				counts["fans"]++
			}
		}
		liesAsKnown(t, h, b, k)
		keptAsKnown(t, h, b, k, counts)
	}
	if counts["none"] < 200 || counts["low"] < 200 || counts["fans"] < 50 || counts["kept"] < 200 || counts["perhaps"] < 200 {
		t.Error(counts)
	}
}

// allErrors checks that all functions that need a truth say that there is none.
func allErrors(t *testing.T, h api.OutworkHouse, b []api.OutworkEntry) {
	_, a := outwork.Has(h, b, 0)
	_, _, c := outwork.Kept(h, b, 0)
	_, _, _, d := outwork.Lies(h, b, 0)
	_, _, e := outwork.Fans(h, b, 0)
	_, _, f := outwork.Weigh(h, b, 0)
	_, g := outwork.Settle(h, b, 0)
	for _, e := range []api.Errno{a, c, d, e, f, g} {
		if e != api.ErrState {
			t.Fatal(h, b, a, c, d, e, f, g)
		}
	}
}

func liesAsKnown(t *testing.T, h api.OutworkHouse, b []api.OutworkEntry, k known) {
	for stuff := range h.Takes {
		home, fans, lost, e := outwork.Lies(h, b, stuff)
		if home != k.home[stuff].is || fans != k.fans[stuff].is || lost != k.lost[stuff].is || e != api.OK {
			t.Fatal(h, b, stuff, home, fans, lost, e, k.home, k.fans, k.lost)
		}
	}
}

func keptAsKnown(t *testing.T, h api.OutworkHouse, b []api.OutworkEntry, k known, counts map[string]int) {
	for limit := range 10 {
		var wantSurely, wantPossibly []int
		for worker, s := range k.above {
			if s.is.Low > limit {
				wantSurely = append(wantSurely, worker)
			}
			if s.is.High > limit {
				wantPossibly = append(wantPossibly, worker)
			}
		}
		surely, possibly, e := outwork.Kept(h, b, limit)
		if !slices.Equal(surely, wantSurely) || !slices.Equal(possibly, wantPossibly) || e != api.OK {
			t.Fatal(h, b, limit, surely, possibly, e, wantSurely, wantPossibly)
		}
		if len(surely) > 0 {
			counts["kept"]++
		}
		if len(possibly) > len(surely) {
			counts["perhaps"]++
		}
	}
}

// P7.11 and P7.16 against all that can have happened by small books.
func TestMovedOfAll(t *testing.T) {
	r := rand.New(rand.NewSource(2))
	counts := map[string]int{}
	for i := range 1500 {
		h, b := anySmall(r, 5)
		want := make([]seen, len(h.Takes))
		for u := range flows(h, b) {
			for stuff := range want {
				together, missing := 0, 0
				for _, l := range u {
					together += l[stuff].home()
					missing -= min(0, l[stuff].home())
				}
				if together >= 0 {
					want[stuff].add(missing)
				}
			}
		}
		l, e := outwork.Moved(h, b)
		if slices.ContainsFunc(want, func(s seen) bool { return !s.any }) {
			if len(l) != 0 || e != api.ErrNone {
				t.Fatal(i, h, b, l, e)
			}
			counts["none"]++
			continue
		}
		some := false
		for stuff, s := range want {
			if len(l) != len(want) || l[stuff] != s.is.Low || e != api.OK {
				t.Fatal(i, h, b, l, e, want)
			}
			some = some || l[stuff] > 0
		}
		if some == hasTruth(h, b) {
			t.Fatal(i, h, b, l)
		}
		if some {
			counts["some"]++
		}
	}
	if counts["none"] < 100 || counts["some"] < 30 {
		t.Error(counts)
	}
}

// canBe reports whether a book has a truth with some Counts of a set of its entries: the least, the greatest, or one between them.
func canBe(h api.OutworkHouse, b []api.OutworkEntry, set []int) bool {
	if len(set) == 0 {
		return hasTruth(h, b)
	}
	for _, count := range []int{0, greatest(b[set[0]]) / 3, greatest(b[set[0]])} {
		if canBe(h, counting(b, set[0], count), set[1:]) {
			return true
		}
	}
	return false
}

// P7.7 and P7.15 against all sets of entries.
func TestWrongOfAllSets(t *testing.T) {
	r := rand.New(rand.NewSource(3))
	many, later := map[int]int{}, 0
	for i := range 1500 {
		h, b := anySmall(r, 6)
		l, e := outwork.Wrong(h, b)
		if hasTruth(h, b) {
			if len(l) != 0 || e != api.ErrTwice {
				t.Fatal(i, h, b, l, e)
			}
			continue
		}
		var right [][]int
		for set := range 1 << len(b) {
			if s := sets.Members(set); canBe(h, b, s) {
				right = append(right, s)
			}
		}
		if want := slices.MinFunc(right, sets.Fewer); !slices.Equal(l, want) || e != api.OK {
			t.Fatal(i, h, b, l, e, want)
		}
		many[len(l)]++
		if l[0] > 0 {
			later++
		}
	}
	if many[1] < 200 || many[2] < 100 || many[3] < 10 || later < 100 {
		t.Error(many, later)
	}
}

// repaired returns a book in which the entries of a set are as they can do least harm.
func repaired(b []api.OutworkEntry, set []int) []api.OutworkEntry {
	for _, k := range set {
		count := 0
		if b[k].Kind == api.OutworkOut {
			count = api.MaxOutworkWeight
		}
		b = counting(b, k, count)
	}
	return b
}

// P7.7 and P7.15 in books of any size.
func TestWrongOfLargeBooks(t *testing.T) {
	r := rand.New(rand.NewSource(4))
	many := map[int]int{}
	for i := range 300 {
		h, b := anyLarge(r)
		if hasTruth(h, b) {
			continue
		}
		l, e := outwork.Wrong(h, b)
		if !hasTruth(h, repaired(b, l)) || e != api.OK {
			t.Fatal(i, h, b, l, e)
		}
		many[len(l)]++
		for set := range 1 << len(b) {
			if s := sets.Members(set); sets.Fewer(s, l) < 0 && hasTruth(h, repaired(b, s)) {
				t.Fatal(i, h, b, l, s)
			}
		}
	}
	if many[1] < 30 || many[2] < 30 || many[4] < 5 {
		t.Error(many)
	}
}

// countsFor returns numbers that an entry can have as its Count: all of fans; of weights those near a span and its ends, and some others.
func countsFor(r *rand.Rand, x api.OutworkEntry, s api.Span) []int {
	var l []int
	if x.Kind == api.OutworkDone {
		for n := range api.MaxOutworkFans + 1 {
			l = append(l, n)
		}
		return l
	}
	for _, at := range []int{0, s.Low, s.High, (s.Low + s.High) / 2, x.Count, api.MaxOutworkWeight} {
		for n := max(0, at-2); n <= min(at+2, api.MaxOutworkWeight); n++ {
			l = append(l, n)
		}
	}
	for range 20 {
		l = append(l, between(r, 0, api.MaxOutworkWeight), between(r, 0, 20))
	}
	return l
}

// P7.8 and P7.15 by trying other Counts.
func TestBlameOfOtherCounts(t *testing.T) {
	r := rand.New(rand.NewSource(5))
	none, found, whole := 0, 0, 0
	for i := range 600 {
		h, b := anyLarge(r)
		if i%2 == 0 {
			h, b = anySmall(r, 6)
		}
		l, e := outwork.Blame(h, b)
		if len(l) != len(b) || e != api.OK {
			t.Fatal(i, h, b, l, e)
		}
		for k, s := range l {
			within := func(n int) bool { return s.Low <= n && n <= s.High }
			for _, n := range countsFor(r, b[k], s) {
				if hasTruth(h, counting(b, k, n)) != within(n) {
					t.Fatal(i, h, b, k, s, n)
				}
			}
			if s.Low > s.High && s != to(1, 0) || hasTruth(h, b) && !within(b[k].Count) {
				t.Fatal(i, h, b, k, s)
			}
			switch s {
			case to(1, 0):
				none++
			case to(0, greatest(b[k])):
				whole++
			default:
				found++
			}
		}
		// One entry alone is wrong just if it has a span.
		if wrong, e := outwork.Wrong(h, b); e == api.OK {
			some := slices.IndexFunc(l, func(s api.Span) bool { return s != to(1, 0) })
			if (len(wrong) == 1) != (some >= 0) || len(wrong) == 1 && wrong[0] != some {
				t.Fatal(i, h, b, wrong, l)
			}
		}
	}
	if none < 300 || found < 300 || whole < 100 {
		t.Error(none, found, whole)
	}
}

// P7.8: each Count of a weight and of fans.
func TestBlameOfEachCount(t *testing.T) {
	h, b := example(), exampleWrong()
	l, e := outwork.Blame(h, b)
	if e != api.OK {
		t.Fatal(e)
	}
	for _, k := range []int{0, 2, 3} {
		for n := range greatest(b[k]) + 1 {
			if hasTruth(h, counting(b, k, n)) != (l[k].Low <= n && n <= l[k].High) {
				t.Fatal(k, n, l[k])
			}
		}
	}
}

// enough reports whether a true weight is enough, whatever is lost of it.
func enough(weight, need, thousandths int) bool {
	for lost := 0; lost*1000 <= weight*thousandths; lost++ {
		if weight-lost < need {
			return false
		}
	}
	return true
}

// P7.6 and P7.14 against all true weights, and all that can be lost.
func TestGiveOfAllWeights(t *testing.T) {
	r := rand.New(rand.NewSource(6))
	none, nothing, found := 0, 0, 0
	for i := range 400 {
		h := anyHouse(r, between(r, 1, 2), oneOf(r, 0, 3, 100), oneOf(r, 0, 5, 30))
		for stuff := range h.Lost {
			h.Lost[stuff] = oneOf(r, 0, 1, 99, 333, 500, 750, 999, 1000)
		}
		fans := between(r, 0, oneOf(r, 1, 20, 100))
		l, e := outwork.Give(h, fans)
		if e != api.OK {
			if e != api.ErrNone || len(l) != 0 || !slices.ContainsFunc(numbersOf(h), func(stuff int) bool { return !canGive(h, stuff, fans) }) {
				t.Fatal(i, h, fans, l, e)
			}
			none++
			continue
		}
		for stuff, count := range l {
			need := fans * h.Takes[stuff].High
			if need == 0 {
				if count != 0 {
					t.Fatal(i, h, fans, l)
				}
				nothing++
				continue
			}
			found++
			for weight := max(0, count-h.Scales); weight <= count+h.Scales; weight++ {
				if !enough(weight, need, h.Lost[stuff]) {
					t.Fatal(i, h, fans, l, weight)
				}
			}
			if enough(count-1-h.Scales, need, h.Lost[stuff]) {
				t.Fatal(i, h, fans, l)
			}
		}
	}
	if none < 30 || nothing < 30 || found < 100 {
		t.Error(none, nothing, found)
	}
}

// numbersOf returns the numbers of all stuffs.
func numbersOf(h api.OutworkHouse) []int { return sets.Members(1<<len(h.Takes) - 1) }

// canGive reports whether the greatest Count is surely enough of a stuff.
func canGive(h api.OutworkHouse, stuff, fans int) bool {
	weight, need := api.MaxOutworkWeight-h.Scales, fans*h.Takes[stuff].High
	return need == 0 || weight-weight*h.Lost[stuff]/1000 >= need
}

// P7.14: what Give says can be noted, and is enough then.
func TestGiven(t *testing.T) {
	r := rand.New(rand.NewSource(7))
	less := 0
	for i := range 600 {
		h := anyHouse(r, between(r, 1, api.MaxOutworkStuffs), between(r, 0, 100), between(r, 0, 30))
		fans := between(r, 0, api.MaxOutworkFans)
		l, e := outwork.Give(h, fans)
		if e != api.OK {
			t.Fatal(i, h, fans, e)
		}
		var b []api.OutworkEntry
		for stuff, count := range l {
			b = append(b, out(3, stuff, count))
		}
		if surely, _, e := outwork.Fans(h, b, 3); surely < fans || e != api.OK {
			t.Fatal(i, h, fans, l, surely, e)
		}
		for k := range b {
			if b[k].Count == 0 {
				continue
			}
			if surely, _, e := outwork.Fans(h, counting(b, k, b[k].Count-1), 3); surely != fans-1 && h.Lost[k] == 0 || surely >= fans || e != api.OK {
				t.Fatal(i, h, fans, l, k, surely, e)
			}
			less++
		}
	}
	if less < 500 {
		t.Error(less)
	}
}

// settles reports whether a Count that is brought back settles a stuff.
func settles(h api.OutworkHouse, b []api.OutworkEntry, worker, stuff, count int) bool {
	with := append(slices.Clone(b), back(worker, stuff, count))
	if !hasTruth(h, with) {
		return false
	}
	s := hasOf(h, with, worker)[stuff]
	return s.Low == 0 && s.High <= h.Scales
}

// P7.10 by trying all Counts.
func TestSettleOfAllCounts(t *testing.T) {
	r := rand.New(rand.NewSource(8))
	nothing, some := 0, 0
	for i := range 1500 {
		h, b := anySmall(r, 8)
		h.Scales = between(r, 0, 5)
		if !hasTruth(h, b) {
			continue
		}
		worker := between(r, 0, api.MaxOutworkWorkers-1)
		if len(b) > 0 {
			worker = oneOf(r, b...).Worker
		}
		l, e := outwork.Settle(h, b, worker)
		if len(l) != len(h.Takes) || e != api.OK {
			t.Fatal(i, h, b, worker, l, e)
		}
		for stuff, count := range l {
			for n := range count {
				if settles(h, b, worker, stuff, n) {
					t.Fatal(i, h, b, worker, stuff, count, n)
				}
			}
			if !settles(h, b, worker, stuff, count) {
				t.Fatal(i, h, b, worker, stuff, count)
			}
			if count == 0 {
				nothing++
			} else {
				some++
			}
		}
	}
	if nothing < 300 || some < 300 {
		t.Error(nothing, some)
	}
}

// P7.9 by the spans of all workers.
func TestWeighOfAll(t *testing.T) {
	r := rand.New(rand.NewSource(9))
	none, later := 0, 0
	for i := range 1000 {
		h, b := anyLarge(r)
		if !hasTruth(h, b) {
			continue
		}
		for stuff := range h.Takes {
			want, wide := 0, 0
			for worker := api.MaxOutworkWorkers - 1; worker >= 0; worker-- {
				if s := hasOf(h, b, worker)[stuff]; s.High-s.Low >= wide {
					want, wide = worker, s.High-s.Low
				}
			}
			worker, width, e := outwork.Weigh(h, b, stuff)
			if wide == 0 {
				if worker != 0 || width != 0 || e != api.ErrNone {
					t.Fatal(i, h, b, stuff, worker, width, e)
				}
				none++
				continue
			}
			if worker != want || width != wide || e != api.OK {
				t.Fatal(i, h, b, stuff, worker, width, e, want, wide)
			}
			if worker > 0 {
				later++
			}
		}
	}
	if none < 50 || later < 100 {
		t.Error(none, later)
	}
}

// within makes a span at random that lies within another one.
func within(r *rand.Rand, s api.Span) api.Span {
	low := between(r, s.Low, s.High)
	return to(low, between(r, low, s.High))
}

// P7.16: with better scales, narrower Takes, or a smaller Lost.
func TestBetterScales(t *testing.T) {
	r := rand.New(rand.NewSource(10))
	narrower, none := 0, 0
	for i := range 3000 {
		h, b := anyLarge(r)
		if !hasTruth(h, b) {
			continue
		}
		if l, e := outwork.Moved(h, b); !slices.Equal(l, make([]int, len(h.Takes))) || e != api.OK {
			t.Fatal(i, h, b, l, e)
		}
		better := house(between(r, 0, h.Scales), nil)
		for stuff, each := range h.Takes {
			better.Takes = append(better.Takes, within(r, each))
			better.Lost = append(better.Lost, between(r, 0, h.Lost[stuff]))
		}
		if !hasTruth(better, b) {
			none++
			continue
		}
		for worker := range api.MaxOutworkWorkers {
			before, after := hasOf(h, b, worker), hasOf(better, b, worker)
			for stuff, s := range after {
				if s.Low < before[stuff].Low || s.High > before[stuff].High {
					t.Fatal(i, h, better, b, worker, before, after)
				}
				if s != before[stuff] {
					narrower++
				}
			}
		}
	}
	if narrower < 500 || none < 20 {
		t.Error(narrower, none)
	}
}
