package guard_test

import (
	"cmp"
	"iter"
	"math/rand"
	"slices"

	"panache/api"
	"panache/guard"
)

func one(weight int, curve ...int) api.Guard { return api.Guard{Weight: weight, Curve: curve} }

// straight are guards of some weights that are curved alike.
func straight(weights ...int) []api.Guard {
	var l []api.Guard
	for _, n := range weights {
		l = append(l, one(n, 0))
	}
	return l
}

func stock(left, right []api.Guard) api.GuardStock { return api.GuardStock{Left: left, Right: right} }

func gauge(scales, off, weight, curve int) api.GuardGauge {
	return api.GuardGauge{Scales: scales, Gauge: off, Weight: weight, Curve: curve}
}

// exact is a gauge that is never wrong, for pairs that differ by so much.
func exact(weight int) api.GuardGauge { return gauge(0, 0, weight, 0) }

// pairs returns the pairs of numbers that follow each other.
func pairs(numbers ...int) []api.GuardPair {
	var l []api.GuardPair
	for k := 0; k < len(numbers); k += 2 {
		l = append(l, api.GuardPair{Left: numbers[k], Right: numbers[k+1]})
	}
	return l
}

// The stock and the gauge of the chapter's examples.
var exampleGauge = gauge(1, 0, 5, 4)

func example() api.GuardStock {
	return stock([]api.Guard{one(100, 20), one(104, 24), one(120, 20)}, []api.Guard{one(103, 22), one(101, 20), one(118, 30)})
}

func comparePairs(a, b api.GuardPair) int {
	return cmp.Or(cmp.Compare(a.Left, b.Left), cmp.Compare(a.Right, b.Right))
}

func compareLists(a, b []api.GuardPair) int { return slices.CompareFunc(a, b, comparePairs) }

func between(r *rand.Rand, low, high int) int { return low + r.Intn(high-low+1) }

// anyGuards makes guards at random that are rather alike.
func anyGuards(r *rand.Rand, many, marks, weight, spread int) []api.Guard {
	var l []api.Guard
	for range many {
		a := api.Guard{Weight: min(api.MaxGuardWeight, between(r, weight, weight+spread))}
		for range marks {
			a.Curve = append(a.Curve, between(r, 0, spread/3))
		}
		l = append(l, a)
	}
	return l
}

// anyStock makes a stock at random, of so many guards a side at most.
func anyStock(r *rand.Rand, most int) api.GuardStock {
	marks, weight, spread := between(r, 1, between(r, 1, 4)), between(r, 1, api.MaxGuardWeight), between(r, 2, 24)
	side := func() []api.Guard { return anyGuards(r, between(r, between(r, 0, most), most), marks, weight, spread) }
	return stock(side(), side())
}

// evenStock makes a stock at random of so many guards on each side.
func evenStock(r *rand.Rand, many int) api.GuardStock {
	weight, spread := between(r, 1, api.MaxGuardWeight), between(r, 2, 30)
	return stock(anyGuards(r, many, 2, weight, spread), anyGuards(r, many, 2, weight, spread))
}

// anyGauge makes a gauge at random that is wrong by off at most.
func anyGauge(r *rand.Rand, off int) api.GuardGauge {
	return gauge(between(r, 0, off), between(r, 0, off), between(r, 0, 12), between(r, 3, 12))
}

// choices yields all lists of many numbers from -off to off. It is one list that changes.
func choices(many, off int) iter.Seq[[]int] {
	return func(yield func([]int) bool) {
		l := make([]int, many)
		var from func(k int) bool
		from = func(k int) bool {
			if k == many {
				return yield(l)
			}
			for n := -off; n <= off; n++ {
				l[k] = n
				if !from(k + 1) {
					return false
				}
			}
			return true
		}
		from(0)
	}
}

// truthsOf yields all that a guard can truly be.
func truthsOf(a api.Guard, g api.GuardGauge) iter.Seq[api.Guard] {
	return func(yield func(api.Guard) bool) {
		for weight := range choices(1, g.Scales) {
			for curve := range choices(len(a.Curve), g.Gauge) {
				u := one(a.Weight+weight[0], slices.Clone(a.Curve)...)
				for k, n := range curve {
					u.Curve[k] += n
				}
				if !yield(u) {
					return
				}
			}
		}
	}
}

// truths yields all truths of some guards.
func truths(guards []api.Guard, g api.GuardGauge) iter.Seq[[]api.Guard] {
	return func(yield func([]api.Guard) bool) {
		var from func(known []api.Guard) bool
		from = func(known []api.Guard) bool {
			if len(known) == len(guards) {
				return yield(known)
			}
			for u := range truthsOf(guards[len(known)], g) {
				if !from(append(known, u)) {
					return false
				}
			}
			return true
		}
		from(make([]api.Guard, 0, len(guards)))
	}
}

// alikeIn reports whether two guards are alike in a truth.
func alikeIn(a, b api.Guard, g api.GuardGauge) bool {
	for k := range a.Curve {
		if d := a.Curve[k] - b.Curve[k]; d > g.Curve || -d > g.Curve {
			return false
		}
	}
	return a.Weight-b.Weight <= g.Weight && b.Weight-a.Weight <= g.Weight
}

// surely reports what Alike says, which TestAlikeAllTruths finds to be right.
func surely(a, b api.Guard, g api.GuardGauge) bool {
	s, _, e := guard.Alike(a, b, g)
	if e != api.OK {
		panic(e)
	}
	return s
}

// surelyIfKnown reports whether two guards are alike in all truths in which the first one is as it was gauged.
func surelyIfKnown(a, b api.Guard, g api.GuardGauge) bool {
	for u := range truthsOf(b, g) {
		if !alikeIn(a, u, g) {
			return false
		}
	}
	return true
}

// match reports whether a left guard and a right one can be a pair.
type match func(left, right int) bool

// surelyOf is the match of guards that are surely alike.
func surelyOf(s api.GuardStock, g api.GuardGauge) match {
	can := map[api.GuardPair]bool{}
	for l, a := range s.Left {
		for r, b := range s.Right {
			can[api.GuardPair{Left: l, Right: r}] = surely(a, b, g)
		}
	}
	return func(left, right int) bool { return can[api.GuardPair{Left: left, Right: right}] }
}

// ways yields all lists of pairs that can be together, each ascending. It is one list that changes.
func ways(s api.GuardStock, can match) iter.Seq[[]api.GuardPair] {
	return func(yield func([]api.GuardPair) bool) {
		taken := make([]bool, len(s.Right))
		var from func(left int, now []api.GuardPair) bool
		from = func(left int, now []api.GuardPair) bool {
			if left == len(s.Left) {
				return yield(now)
			}
			for right := range s.Right {
				if taken[right] || !can(left, right) {
					continue
				}
				taken[right] = true
				if !from(left+1, append(now, api.GuardPair{Left: left, Right: right})) {
					return false
				}
				taken[right] = false
			}
			return from(left+1, now)
		}
		from(0, nil)
	}
}

// best returns the smallest one of the lists with the most pairs, by looking at all of them.
func best(s api.GuardStock, can match) []api.GuardPair {
	var best []api.GuardPair
	for l := range ways(s, can) {
		if len(l) > len(best) || len(l) == len(best) && compareLists(l, best) < 0 {
			best = slices.Clone(l)
		}
	}
	return best
}

// mostOf returns how many pairs of guards that are surely alike there are, by looking at all ways.
func mostOf(s api.GuardStock, g api.GuardGauge) int { return len(best(s, surelyOf(s, g))) }

// less returns guards without one of them.
func less(l []api.Guard, k int) []api.Guard { return slices.Delete(slices.Clone(l), k, k+1) }

// more returns guards with one more.
func more(l []api.Guard, a api.Guard) []api.Guard { return append(slices.Clone(l), a) }

func pairsOf(s api.GuardStock, g api.GuardGauge) []api.GuardPair {
	l, e := guard.Pairs(s, g)
	if e != api.OK {
		panic(e)
	}
	return l
}
