package mix_test

import (
	"maps"
	"math/rand"
	"slices"
	"testing"

	"panache/api"
	"panache/mix"
	"panache/sets"
)

// P8.2 to P8.6 against all lists of carriers.
func TestAllWays(t *testing.T) {
	r := rand.New(rand.NewSource(1))
	counts := map[string]int{}
	for i := range 1500 {
		l := anyLoad(r, small)
		ways := allWays(l)
		if len(ways) == 0 {
			counts["none"]++
			noWay(t, l)
			continue
		}
		many, first, e := mix.Ways(l)
		if many != len(ways) || !slices.Equal(first, ways[0]) || e != api.OK {
			t.Fatal(i, l, many, first, e, ways)
		}
		carriers, e := mix.Can(l)
		if len(carriers) != len(l.Boxes) || e != api.OK {
			t.Fatal(i, l, carriers, e)
		}
		best, least := 0, many
		for k := range l.Boxes {
			most, can := 0, 0
			for c := range l.Bills {
				if n := len(left(ways, k, c)); n > 0 {
					most, can = max(most, n), can|1<<c
				}
			}
			if worth, e := mix.Worth(l, k); worth != most || e != api.OK || carriers[k] != can {
				t.Fatal(i, l, k, worth, e, carriers, ways)
			}
			if most < least {
				best, least = k, most
			}
		}
		ask, after, e := mix.Ask(l)
		switch {
		case many == 1:
			counts["one"]++
			if ask != 0 || after != 0 || e != api.ErrFull {
				t.Fatal(i, l, ask, after, e)
			}
		case ask != best || after != least || e != api.OK:
			t.Fatal(i, l, ask, after, e, ways)
		case ask > 0:
			counts["later"]++
		}
		togetherAsKnown(t, l, ways, counts)
	}
	if counts["none"] < 200 || counts["one"] < 200 || counts["later"] < 100 || counts["surely"] < 200 || counts["possibly"] < 200 || counts["not"] < 200 {
		t.Error(counts)
	}
}

// noWay checks that all functions that need a way say that there is none.
func noWay(t *testing.T, l api.MixLoad) {
	_, _, a := mix.Ways(l)
	_, b := mix.Can(l)
	_, _, c := mix.Together(l, 0, 1)
	_, d := mix.Worth(l, 0)
	_, _, e := mix.Ask(l)
	_, _, f := mix.Questions(l)
	_, g := mix.Share(l, 0, 0)
	for _, e := range []api.Errno{a, b, c, d, e, f, g} {
		if e != api.ErrState {
			t.Fatal(l, a, b, c, d, e, f, g)
		}
	}
}

func togetherAsKnown(t *testing.T, l api.MixLoad, ways [][]int, counts map[string]int) {
	for a := range l.Boxes {
		for b := range l.Boxes {
			if a == b {
				continue
			}
			apart := func(way []int) bool { return way[a] != way[b] }
			same := func(way []int) bool { return way[a] == way[b] }
			surely, possibly, e := mix.Together(l, a, b)
			if surely == slices.ContainsFunc(ways, apart) || possibly != slices.ContainsFunc(ways, same) || e != api.OK {
				t.Fatal(l, a, b, surely, possibly, e, ways)
			}
			switch {
			case surely:
				counts["surely"]++
			case possibly:
				counts["possibly"]++
			default:
				counts["not"]++
			}
		}
	}
}

// P8.10 against all that the boxes of a carrier can have together in all ways.
func TestShareOfAllWays(t *testing.T) {
	r := rand.New(rand.NewSource(2))
	narrower, several := 0, 0
	for i := range 1500 {
		l := anyLoad(r, small)
		ways := allWays(l)
		if len(ways) == 0 {
			continue
		}
		for carrier, b := range l.Bills {
			for stuff, said := range b.Held {
				var all []int
				for _, way := range ways {
					sums, _ := sharesIn(l, way, nil, carrier, stuff)
					all = append(all, sums...)
				}
				s, e := mix.Share(l, carrier, stuff)
				if s != to(slices.Min(all), slices.Max(all)) || e != api.OK {
					t.Fatal(i, l, carrier, stuff, s, e, ways)
				}
				if s != said {
					narrower++
				}
				if s.Low < s.High && len(ways) > 1 {
					several++
				}
			}
		}
	}
	if narrower < 200 || several < 200 {
		t.Error(narrower, several)
	}
}

// decided reports whether so many questions decide among ways: all questions are tried, in all orders.
func decided(ways [][]int, questions int) bool {
	if len(ways) <= 1 {
		return true
	}
	return questions > 0 && slices.ContainsFunc(sets.Members(1<<len(ways[0])-1), func(box int) bool { return decidedBy(ways, questions, box) })
}

// decidedBy reports whether they do if the first one is about a box.
func decidedBy(ways [][]int, questions, box int) bool {
	for c := range api.MaxMixCarriers {
		if !decided(left(ways, box, c), questions-1) {
			return false
		}
	}
	return true
}

// P8.7 against all trees of questions.
func TestQuestionsOfAllTrees(t *testing.T) {
	r := rand.New(rand.NewSource(3))
	many, notAsked, later := map[int]int{}, 0, 0
	for i := range 1200 {
		_, l := anyTruth(r, size{boxes: 6, stuffs: 2, held: 6, doubt: 2})
		ways := allWays(l)
		if len(ways) > 40 {
			continue
		}
		want := 0
		for !decided(ways, want) {
			want++
		}
		first := -1
		if want > 0 {
			first = slices.IndexFunc(sets.Members(1<<len(l.Boxes)-1), func(box int) bool { return decidedBy(ways, want, box) })
		}
		n, box, e := mix.Questions(l)
		if n != want || box != first || e != api.OK {
			t.Fatal(i, l, n, box, e, want, first)
		}
		many[n]++
		if ask, _, e := mix.Ask(l); e == api.OK && ask != box {
			notAsked++
		}
		if box > 0 {
			later++
		}
	}
	if many[0] < 100 || many[1] < 100 || many[2] < 50 || many[3] < 50 || many[4] < 20 || notAsked < 10 || later < 50 {
		t.Error(many, notAsked, later)
	}
}

// P8.12: after a question no more ways are left than Worth says, and for some answer as many.
func TestAfterAQuestion(t *testing.T) {
	r := rand.New(rand.NewSource(4))
	several := 0
	for i := range 1500 {
		z := oneOf(r, small, large)
		z.stuffs = 2
		_, l := anyTruth(r, z)
		for k := range l.Boxes {
			most := 0
			for c := range l.Bills {
				most = max(most, manyWays(answered(l, map[int]int{k: c})))
			}
			if worth, e := mix.Worth(l, k); worth != most || e != api.OK {
				t.Fatal(i, l, k, worth, e, most)
			}
			if most > 1 && most < manyWays(l) {
				several++
			}
		}
	}
	if several < 500 {
		t.Error(several)
	}
}

// P8.12: whatever the answers are, Questions leads to one way with as many questions as it said; after each answer fewer are needed.
func TestQuestionsAreAsked(t *testing.T) {
	r := rand.New(rand.NewSource(5))
	asked := map[int]int{}
	for i := range 400 {
		z := oneOf(r, small, large)
		z.stuffs = 2
		u, l := anyTruth(r, z)
		ways := manyWays(l)
		if ways > api.MaxMixWays {
			continue
		}
		said := map[int]int{}
		needed, first, e := mix.Questions(l)
		if e != api.OK {
			t.Fatal(i, l, e)
		}
		most := 1
		for range needed {
			most *= len(l.Bills)
		}
		if ways > most {
			t.Fatal(i, l, ways, needed)
		}
		asked[needed]++
		for first >= 0 {
			for c := range l.Bills {
				more := maps.Clone(said)
				more[first] = c
				if n, _, e := mix.Questions(answered(l, more)); e != api.ErrState && (n >= needed || e != api.OK) {
					t.Fatal(i, l, said, first, c, n, e)
				}
			}
			said[first] = u.way[first]
			needed, first, e = mix.Questions(answered(l, said))
			if e != api.OK {
				t.Fatal(i, l, said, e)
			}
		}
		if needed != 0 || manyWays(answered(l, said)) != 1 {
			t.Fatal(i, l, said, needed)
		}
	}
	if asked[0] < 30 || asked[1] < 30 || asked[3] < 20 || asked[4] < 20 || asked[5]+asked[6]+asked[7] < 10 {
		t.Error(asked)
	}
}

// P8.8 and P8.13 against all sets of boxes and all lists of carriers.
func TestWrongOfAllSets(t *testing.T) {
	r := rand.New(rand.NewSource(6))
	counts, none, later := map[int]int{}, 0, 0
	for i := range 1500 {
		l := anyLoad(r, small)
		wrong, e := mix.Wrong(l)
		if hasWay(l) {
			if len(wrong) != 0 || e != api.ErrTwice {
				t.Fatal(i, l, wrong, e)
			}
			noneInShort(t, l)
			continue
		}
		var right [][]int
		for set := range 1 << len(l.Boxes) {
			if s := sets.Members(set); hasWay(l, s...) {
				right = append(right, s)
			}
		}
		if len(right) == 0 {
			none++
			if len(wrong) != 0 || e != api.ErrNone {
				t.Fatal(i, l, wrong, e)
			}
			continue
		}
		if want := slices.MinFunc(right, sets.Fewer); !slices.Equal(wrong, want) || e != api.OK {
			t.Fatal(i, l, wrong, e, want)
		}
		counts[len(wrong)]++
		if wrong[0] > 0 {
			later++
		}
	}
	if counts[1] < 200 || counts[2] < 50 || counts[3] < 5 || none < 50 || later < 50 {
		t.Error(counts, none, later)
	}
}

// P8.13: if there is a way, 0 lies in each span of Short.
func noneInShort(t *testing.T, l api.MixLoad) {
	short, e := mix.Short(l)
	if len(short) != len(l.Bills[0].Held) || e != api.OK || slices.ContainsFunc(short, func(s api.Span) bool { return s.Low > 0 || s.High < 0 }) {
		t.Fatal(l, short, e)
	}
}

// allSums returns all sums of numbers of some spans, one of each.
func allSums(l []api.Span) []int {
	sums := numbers(0)
	for _, s := range l {
		var more []int
		for n := s.Low; n <= s.High; n++ {
			for _, sum := range sums {
				more = append(more, sum+n)
			}
		}
		sums = more
	}
	return sums
}

// P8.9 against all that all boxes can have, and all that all bills can say.
func TestShortOfAllTruths(t *testing.T) {
	r := rand.New(rand.NewSource(7))
	without := 0
	for i := range 1000 {
		l := anyLoad(r, tiny)
		short, e := mix.Short(l)
		if len(short) != len(l.Bills[0].Held) || e != api.OK {
			t.Fatal(i, l, short, e)
		}
		for stuff, s := range short {
			var had, said []api.Span
			for _, b := range l.Boxes {
				had = append(had, b.Held[stuff])
			}
			for _, b := range l.Bills {
				said = append(said, b.Held[stuff])
			}
			var all []int
			for _, a := range allSums(had) {
				for _, b := range allSums(said) {
					all = append(all, a-b)
				}
			}
			if s != to(slices.Min(all), slices.Max(all)) {
				t.Fatal(i, l, short, stuff)
			}
		}
		if !hasWay(l) {
			without++
		}
	}
	if without < 200 {
		t.Error(without)
	}
}

// P8.11: what is true is among what can be.
func TestTrueWay(t *testing.T) {
	r := rand.New(rand.NewSource(8))
	sure := 0
	for i := range 3000 {
		u, l := anyTruth(r, oneOf(r, small, large))
		many, first, e := mix.Ways(l)
		if many < 1 || slices.Compare(first, u.way) > 0 || many == 1 && !slices.Equal(first, u.way) || e != api.OK {
			t.Fatal(i, l, u, many, first, e)
		}
		carriers, e := mix.Can(l)
		for k, c := range u.way {
			if carriers[k]&(1<<c) == 0 || e != api.OK {
				t.Fatal(i, l, u, carriers, e)
			}
		}
		for a := range u.way {
			for b := range a {
				surely, possibly, e := mix.Together(l, a, b)
				if same := u.way[a] == u.way[b]; surely && !same || !possibly && same || e != api.OK {
					t.Fatal(i, l, u, a, b, surely, possibly, e)
				}
				if surely {
					sure++
				}
			}
		}
		sharesAreTrue(t, l, u)
		noneInShort(t, l)
		if wrong, e := mix.Wrong(l); len(wrong) != 0 || e != api.ErrTwice {
			t.Fatal(i, l, wrong, e)
		}
	}
	if sure < 500 {
		t.Error(sure)
	}
}

func sharesAreTrue(t *testing.T, l api.MixLoad, u truth) {
	for carrier, b := range l.Bills {
		for stuff := range b.Held {
			sum := 0
			for k, c := range u.way {
				if c == carrier {
					sum += u.held[k][stuff]
				}
			}
			if s, e := mix.Share(l, carrier, stuff); sum < s.Low || sum > s.High || e != api.OK {
				t.Fatal(l, u, carrier, stuff, s, e)
			}
		}
	}
}

// P8.13: one box that was weighed wrong is found if it is the only one that explains it; never more than the boxes that were wrong must be.
func TestWeighedWrong(t *testing.T) {
	r := rand.New(rand.NewSource(9))
	found, other := 0, 0
	for i := range 3000 {
		_, l := anyTruth(r, large)
		if len(l.Boxes) == 0 {
			continue
		}
		var slips []int
		for range between(r, 1, 2) {
			k := r.Intn(len(l.Boxes))
			slips = append(slips, k)
			for stuff := range l.Boxes[k].Held {
				l.Boxes[k].Held[stuff] = around(r, between(r, 0, api.MaxMixHeld), 5, api.MaxMixHeld)
			}
		}
		slices.Sort(slips)
		slips = slices.Compact(slips)
		wrong, e := mix.Wrong(l)
		if e == api.ErrTwice {
			continue
		}
		if e != api.OK || len(wrong) == 0 || sets.Fewer(wrong, slips) > 0 {
			t.Fatal(i, l, slips, wrong, e)
		}
		if slices.Equal(wrong, slips) {
			found++
		} else {
			other++
		}
	}
	if found < 200 || other < 50 {
		t.Error(found, other)
	}
}

// within makes a span at random that lies within another one.
func within(r *rand.Rand, s api.Span) api.Span {
	low := between(r, s.Low, s.High)
	return to(low, between(r, low, s.High))
}

// narrowed returns spans, of which some are narrower.
func narrowed(r *rand.Rand, l []api.Span) []api.Span {
	var narrow []api.Span
	for _, s := range l {
		if r.Intn(4) == 0 {
			s = within(r, s)
		}
		narrow = append(narrow, s)
	}
	return narrow
}

// P8.14: with narrower spans there are no more ways.
func TestNarrower(t *testing.T) {
	r := rand.New(rand.NewSource(10))
	fewer, as := 0, 0
	for i := range 2000 {
		l := anyLoad(r, oneOf(r, small, large))
		narrow := load(nil)
		for _, b := range l.Boxes {
			narrow.Boxes = append(narrow.Boxes, box(narrowed(r, b.Held)...))
		}
		for _, b := range l.Bills {
			narrow.Bills = append(narrow.Bills, bill(b.Boxes, narrowed(r, b.Held)...))
		}
		before, after := manyWays(l), manyWays(narrow)
		if after > before {
			t.Fatal(i, l, narrow, before, after)
		}
		if after < before {
			fewer++
		} else if after > 0 {
			as++
		}
	}
	if fewer < 300 || as < 300 {
		t.Error(fewer, as)
	}
}

// P8.14: in another order of the boxes, or of the carriers, there are as many.
func TestOtherOrder(t *testing.T) {
	r := rand.New(rand.NewSource(11))
	several := 0
	for i := range 2000 {
		l := anyLoad(r, oneOf(r, small, large))
		other := load(nil)
		for _, k := range r.Perm(len(l.Boxes)) {
			other.Boxes = append(other.Boxes, l.Boxes[k])
		}
		for _, c := range r.Perm(len(l.Bills)) {
			other.Bills = append(other.Bills, l.Bills[c])
		}
		many := manyWays(l)
		if n := manyWays(other); n != many {
			t.Fatal(i, l, other, many, n)
		}
		if many > 1 {
			several++
		}
	}
	if several < 300 {
		t.Error(several)
	}
}
