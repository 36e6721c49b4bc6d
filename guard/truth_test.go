package guard_test

import (
	"cmp"
	"math/rand"
	"slices"
	"testing"

	"panache/api"
	"panache/guard"
	"panache/sets"
)

// P6.2 against all truths of both guards.
func TestAlikeAllTruths(t *testing.T) {
	r := rand.New(rand.NewSource(1))
	counts := map[[2]bool]int{}
	for i := range 1500 {
		g := anyGauge(r, 2)
		l := anyGuards(r, 2, between(r, 1, 2), between(r, 1, 9999), between(r, 2, 16))
		surely, possibly := true, false
		for u := range truths(l, g) {
			now := alikeIn(u[0], u[1], g)
			surely, possibly = surely && now, possibly || now
		}
		counts[[2]bool{surely, possibly}]++
		for range 2 {
			if a, b, e := guard.Alike(l[0], l[1], g); a != surely || b != possibly || e != api.OK {
				t.Fatal(i, l, g, a, b, e)
			}
			slices.Reverse(l)
		}
	}
	if len(counts) != 3 || counts[[2]bool{true, true}] < 200 || counts[[2]bool{false, true}] < 200 || counts[[2]bool{false, false}] < 200 {
		t.Error(counts)
	}
}

// P6.4 and P6.11 against all truths of few guards.
func TestPossibleAllTruths(t *testing.T) {
	r := rand.New(rand.NewSource(2))
	counts := map[[2]int]int{}
	for i := range 600 {
		marks, weight, spread := 1, between(r, 1, 9999), between(r, 2, 12)
		s := stock(anyGuards(r, between(r, 1, 3), marks, weight, spread), anyGuards(r, between(r, 1, 2), marks, weight, spread))
		g := anyGauge(r, 1)
		if len(s.Left) == 3 {
			g.Gauge = 0 // or the truths are too many
		}
		l, most := pairsOf(s, g), 0
		for u := range truths(slices.Concat(s.Left, s.Right), g) {
			is := func(left, right int) bool { return alikeIn(u[left], u[len(s.Left)+right], g) }
			if slices.ContainsFunc(l, func(p api.GuardPair) bool { return !is(p.Left, p.Right) }) {
				t.Fatal(i, s, g, l, u)
			}
			most = max(most, len(best(s, is)))
		}
		counts[[2]int{len(l), most}]++
		if n, e := guard.Possible(s, g); n != most || n < len(l) || e != api.OK {
			t.Fatal(i, s, g, l, n, most, e)
		}
	}
	if counts[[2]int{0, 0}] < 20 || counts[[2]int{0, 2}] < 10 || counts[[2]int{1, 2}] < 10 || counts[[2]int{2, 2}] < 20 {
		t.Error(counts)
	}
}

// P6.3 and P6.12 against all ways to pair the guards.
func TestPairsOfAllWays(t *testing.T) {
	r := rand.New(rand.NewSource(3))
	many, changed := map[int]int{}, 0
	for i := range 1500 {
		side := 5
		if i%300 == 0 {
			side = 7
		}
		s, g := anyStock(r, side), anyGauge(r, 2)
		can := surelyOf(s, g)
		want := best(s, can)
		if l, e := guard.Pairs(s, g); !slices.Equal(l, want) || e != api.OK {
			t.Fatal(i, s, g, l, want, e)
		}
		many[len(want)]++
		if len(want) != greedy(s, can) {
			changed++
		}
	}
	if many[0] < 100 || many[3] < 100 || many[5] < 10 || changed < 30 {
		t.Error(many, changed)
	}
}

// greedy returns how many pairs there are if each left guard takes the first right one that is left.
func greedy(s api.GuardStock, can match) int {
	taken := map[int]bool{}
	for left := range s.Left {
		for right := range s.Right {
			if !taken[right] && can(left, right) {
				taken[right] = true
				break
			}
		}
	}
	return len(taken)
}

// covers reports whether of each two guards that can be a pair at least one is in a set.
func covers(s api.GuardStock, can match, left, right []int) bool {
	for l := range s.Left {
		for r := range s.Right {
			if can(l, r) && !slices.Contains(left, l) && !slices.Contains(right, r) {
				return false
			}
		}
	}
	return true
}

// P6.5 and P6.12 against all sets of guards.
func TestCoverOfAllSets(t *testing.T) {
	r := rand.New(rand.NewSource(4))
	both := 0
	for i := range 1000 {
		s, g := anyStock(r, 5), anyGauge(r, 2)
		can := surelyOf(s, g)
		var wantLeft, wantRight []int
		found := false
		for set := range 1 << (len(s.Left) + len(s.Right)) {
			left, right := sets.Members(set&(1<<len(s.Left)-1)), sets.Members(set>>len(s.Left))
			smaller := !found || cmp.Or(cmp.Compare(len(left)+len(right), len(wantLeft)+len(wantRight)), slices.Compare(left, wantLeft)) < 0
			if smaller && covers(s, can, left, right) {
				wantLeft, wantRight, found = left, right, true
			}
		}
		left, right, e := guard.Cover(s, g)
		if !slices.Equal(left, wantLeft) || !slices.Equal(right, wantRight) || e != api.OK {
			t.Fatal(i, s, g, left, right, wantLeft, wantRight, e)
		}
		if len(left) > 0 && len(right) > 0 {
			both++
		}
	}
	if both < 50 {
		t.Error(both)
	}
}

// P6.12: the proof of large stocks, too.
func TestProof(t *testing.T) {
	r := rand.New(rand.NewSource(5))
	for i := range 2000 {
		s, g := anyStock(r, api.MaxGuardSide), anyGauge(r, 2)
		l := pairsOf(s, g)
		left, right, e := guard.Cover(s, g)
		if len(left)+len(right) != len(l) || !covers(s, surelyOf(s, g), left, right) || e != api.OK {
			t.Fatal(i, s, g, l, left, right, e)
		}
		lefts, rights := map[int]bool{}, map[int]bool{}
		for _, p := range l {
			if lefts[p.Left] || rights[p.Right] || !surely(s.Left[p.Left], s.Right[p.Right], g) || slices.Contains(left, p.Left) == slices.Contains(right, p.Right) {
				t.Fatal(i, s, g, l, left, right)
			}
			lefts[p.Left], rights[p.Right] = true, true
		}
	}
}

// P6.6 and P6.13 by taking each guard away.
func TestSpareOfEach(t *testing.T) {
	r := rand.New(rand.NewSource(6))
	inPair := 0
	for i := range 500 {
		s, g := anyStock(r, 5), anyGauge(r, 2)
		most := mostOf(s, g)
		left, right, e := guard.Spare(s, g)
		var wantLeft, wantRight []int
		for k := range s.Left {
			if n := mostOf(stock(less(s.Left, k), s.Right), g); n == most {
				wantLeft = append(wantLeft, k)
			} else if n != most-1 {
				t.Fatal(i, s, g, k, n)
			}
		}
		for k := range s.Right {
			if n := mostOf(stock(s.Left, less(s.Right, k)), g); n == most {
				wantRight = append(wantRight, k)
			} else if n != most-1 {
				t.Fatal(i, s, g, k, n)
			}
		}
		if !slices.Equal(left, wantLeft) || !slices.Equal(right, wantRight) || e != api.OK {
			t.Fatal(i, s, g, left, right, wantLeft, wantRight, e)
		}
		l := pairsOf(s, g)
		paired := func(left bool, k int) bool {
			return slices.ContainsFunc(l, func(p api.GuardPair) bool { return left && p.Left == k || !left && p.Right == k })
		}
		for k := range s.Left {
			if !paired(true, k) && !slices.Contains(left, k) {
				t.Fatal(i, s, g, l, left)
			}
		}
		for k := range s.Right {
			if !paired(false, k) && !slices.Contains(right, k) {
				t.Fatal(i, s, g, l, right)
			}
		}
		if slices.ContainsFunc(left, func(k int) bool { return paired(true, k) }) {
			inPair++
		}
	}
	if inPair < 50 {
		t.Error(inPair)
	}
}

// P6.7 against all lists of two pairs.
func TestTwinsOfAllFour(t *testing.T) {
	r := rand.New(rand.NewSource(7))
	found, later, strangers := 0, 0, 0
	for i := range 1500 {
		s, g := anyStock(r, 5), anyGauge(r, 1)
		var want []api.GuardPair
		for l := range ways(s, func(int, int) bool { return true }) {
			if len(l) != 2 || want != nil && compareLists(l, want) >= 0 {
				continue
			}
			if eachTwo(s, g, l) {
				want = slices.Clone(l)
			}
		}
		l, e := guard.Twins(s, g)
		if !slices.Equal(l, want) || (e == api.OK) != (want != nil) || e != api.OK && e != api.ErrNone {
			t.Fatal(i, s, g, l, want, e)
		}
		if e == api.OK {
			found++
			if slices.Compare([]int{l[0].Left, l[0].Right, l[1].Left}, []int{0, 0, 1}) != 0 {
				later++
			}
		} else if len(pairsOf(s, g)) > 1 {
			strangers++
		}
	}
	if found < 300 || later < 50 || strangers < 50 {
		t.Error(found, later, strangers)
	}
}

// eachTwo reports whether each two guards of some pairs are surely alike.
func eachTwo(s api.GuardStock, g api.GuardGauge, l []api.GuardPair) bool {
	var guards []api.Guard
	for _, p := range l {
		guards = append(guards, s.Left[p.Left], s.Right[p.Right])
	}
	for k, a := range guards {
		for _, b := range guards[:k] {
			if !surely(a, b, g) {
				return false
			}
		}
	}
	return true
}

// P6.8 and P6.14 by cutting a right guard for each left one.
func TestCutOfEach(t *testing.T) {
	r := rand.New(rand.NewSource(8))
	found, later, helped := 0, 0, 0
	for i := range 800 {
		s, g := anyStock(r, 5), anyGauge(r, 2)
		l := pairsOf(s, g)
		want, most := 0, len(l)
		for k, a := range s.Left {
			n := mostOf(stock(s.Left, more(s.Right, a)), g)
			if n > most {
				want, most = k, n
			}
			if n < len(l) || n > len(l)+1 {
				t.Fatal(i, s, g, k, n)
			}
		}
		left, n, e := guard.Cut(s, g)
		if most == len(l) {
			if left != 0 || n != 0 || e != api.ErrNone {
				t.Fatal(i, s, g, left, n, e)
			}
			continue
		}
		if left != want || n != most || e != api.OK || len(pairsOf(stock(s.Left, more(s.Right, s.Left[left])), g)) != n {
			t.Fatal(i, s, g, left, n, want, most, e)
		}
		found++
		if left > 0 {
			later++
		}
		if slices.ContainsFunc(l, func(p api.GuardPair) bool { return p.Left == left }) {
			helped++ // another left guard
		}
	}
	if found < 200 || later < 50 || helped < 20 {
		t.Error(found, later, helped)
	}
}

// P6.9 and P6.14 by looking at each guard of both sides, in all truths in which it is as it was gauged.
func TestLookAtEach(t *testing.T) {
	r := rand.New(rand.NewSource(9))
	found, later := 0, 0
	for i := range 600 {
		s, g := anyStock(r, 4), anyGauge(r, 2)
		g.Scales = max(1, g.Scales)
		for k := range s.Left {
			s.Left[k].Curve = s.Left[k].Curve[:1]
		}
		for k := range s.Right {
			s.Right[k].Curve = s.Right[k].Curve[:1]
		}
		can := surelyOf(s, g)
		before := len(best(s, can))
		wantRight, want, most := false, 0, before
		look := func(right bool, k int, now match) {
			n := len(best(s, now))
			if n > most {
				wantRight, want, most = right, k, n
			}
			if n < before || n > before+1 {
				t.Fatal(i, s, g, right, k, n)
			}
		}
		for k := range s.Left {
			look(false, k, func(l, r int) bool {
				return can(l, r) || l == k && surelyIfKnown(s.Left[l], s.Right[r], g)
			})
		}
		for k := range s.Right {
			look(true, k, func(l, r int) bool {
				return can(l, r) || r == k && surelyIfKnown(s.Right[r], s.Left[l], g)
			})
		}
		right, number, gain, e := guard.Look(s, g)
		if most == before {
			if right || number != 0 || gain != 0 || e != api.ErrNone {
				t.Fatal(i, s, g, right, number, gain, e)
			}
			continue
		}
		if right != wantRight || number != want || gain != most-before || e != api.OK {
			t.Fatal(i, s, g, right, number, gain, e, wantRight, want, most)
		}
		found++
		if number > 0 {
			later++
		}
	}
	if found < 100 || later < 30 {
		t.Error(found, later)
	}
}

// worstOf returns the greatest difference of weights of some pairs.
func worstOf(s api.GuardStock, l []api.GuardPair) int {
	worst := 0
	for _, p := range l {
		d := s.Left[p.Left].Weight - s.Right[p.Right].Weight
		worst = max(worst, d, -d)
	}
	return worst
}

// P6.10 and P6.15 against all ways to pair all guards.
func TestBalanceOfAllWays(t *testing.T) {
	r := rand.New(rand.NewSource(10))
	crossed := 0
	for i := range 600 {
		many := between(r, 0, 5)
		if i%200 == 0 {
			many = 7
		}
		s := evenStock(r, many)
		var want []api.GuardPair
		for l := range ways(s, func(int, int) bool { return true }) {
			if len(l) == many && (want == nil || cmp.Or(cmp.Compare(worstOf(s, l), worstOf(s, want)), compareLists(l, want)) < 0) {
				want = slices.Clone(l)
			}
		}
		l, worst, e := guard.Balance(s, anyGauge(r, 100))
		if !slices.Equal(l, want) || worst != worstOf(s, want) || e != api.OK {
			t.Fatal(i, s, l, worst, want, e)
		}
		if slices.ContainsFunc(l, func(p api.GuardPair) bool { return p.Left != p.Right }) {
			crossed++
		}
	}
	if crossed < 200 {
		t.Error(crossed)
	}
}

// P6.15: the lightest and the heaviest guards of large stocks.
func TestLeastAndGreatest(t *testing.T) {
	r := rand.New(rand.NewSource(11))
	lighter := func(a, b api.Guard) int { return a.Weight - b.Weight }
	for i := range 500 {
		s := evenStock(r, between(r, 1, api.MaxGuardSide))
		l, worst, e := guard.Balance(s, exampleGauge)
		if len(l) != len(s.Left) || worstOf(s, l) != worst || e != api.OK {
			t.Fatal(i, s, l, worst, e)
		}
		ends := stock(
			[]api.Guard{slices.MinFunc(s.Left, lighter), slices.MaxFunc(s.Left, lighter)},
			[]api.Guard{slices.MinFunc(s.Right, lighter), slices.MaxFunc(s.Right, lighter)},
		)
		if worstOf(ends, pairs(0, 0, 1, 1)) > worst {
			t.Fatal(i, s, l, worst)
		}
	}
}

// P6.14: with a guard more on either side, a better gauge, or more that may differ.
func TestNoFewerPairs(t *testing.T) {
	r := rand.New(rand.NewSource(12))
	counts := map[int]int{}
	for i := range 2000 {
		s, g := anyStock(r, api.MaxGuardSide-1), anyGauge(r, 3)
		if len(s.Left)+len(s.Right) == 0 {
			continue
		}
		n := len(pairsOf(s, g))
		like := slices.Concat(s.Left, s.Right)[r.Intn(len(s.Left)+len(s.Right))]
		for _, with := range []api.GuardStock{stock(more(s.Left, like), s.Right), stock(s.Left, more(s.Right, like))} {
			gain := len(pairsOf(with, g)) - n
			if gain < 0 || gain > 1 {
				t.Fatal(i, s, g, like, gain)
			}
			counts[gain]++
		}
		better := gauge(between(r, 0, g.Scales), between(r, 0, g.Gauge), between(r, g.Weight, 20), between(r, g.Curve, 20))
		gain := len(pairsOf(s, better)) - n
		if gain < 0 {
			t.Fatal(i, s, g, better, gain)
		}
		if gain > 1 {
			counts[gain]++
		}
	}
	if counts[0] < 300 || counts[1] < 300 || counts[2] < 100 {
		t.Error(counts)
	}
}
