package mix_test

import (
	"iter"
	"math/rand"
	"slices"

	"panache/api"
	"panache/mix"
)

func to(low, high int) api.Span { return api.Span{Low: low, High: high} }

// at is the span of a number that is known.
func at(n int) api.Span { return to(n, n) }

func spans(l ...api.Span) []api.Span { return l }

// numbers returns its arguments.
func numbers(l ...int) []int { return l }

func box(held ...api.Span) api.MixBox { return api.MixBox{Held: held} }

func bill(boxes int, held ...api.Span) api.MixBill { return api.MixBill{Boxes: boxes, Held: held} }

func boxes(l ...api.MixBox) []api.MixBox { return l }

func load(l []api.MixBox, bills ...api.MixBill) api.MixLoad {
	return api.MixLoad{Boxes: l, Bills: bills}
}

// known returns boxes of one stuff that were weighed exactly.
func known(weights ...int) []api.MixBox {
	var l []api.MixBox
	for _, n := range weights {
		l = append(l, box(at(n)))
	}
	return l
}

// alike is a load of boxes that are all alike, and of carriers who fetched so many each.
func alike(fetched ...int) api.MixLoad {
	var l api.MixLoad
	for _, n := range fetched {
		l.Boxes = append(l.Boxes, slices.Repeat(known(0), n)...)
		l.Bills = append(l.Bills, bill(n, at(0)))
	}
	return l
}

// The load of the chapter's examples.
func example() api.MixLoad {
	return load(boxes(box(to(10, 12)), box(to(20, 22)), box(at(11)), box(at(30))), bill(2, to(30, 32)), bill(2, to(41, 42)))
}

// exampleWrong is that of the example 4, which has no way.
func exampleWrong() api.MixLoad {
	l := example()
	l.Bills[1] = bill(2, to(50, 60))
	return l
}

func between(r *rand.Rand, low, high int) int { return low + r.Intn(high-low+1) }

func oneOf[T any](r *rand.Rand, l ...T) T { return l[r.Intn(len(l))] }

// around makes a span at random that has a number, and lies within limits.
func around(r *rand.Rand, n, doubt, most int) api.Span {
	return to(max(0, n-between(r, 0, doubt)), min(most, n+between(r, 0, doubt)))
}

// size says how large loads are that are made at random.
type size struct{ boxes, stuffs, held, doubt int }

// tiny are loads whose truths can all be looked at, small are those with all contents of a carrier's boxes, large are those that can be.
var (
	tiny  = size{boxes: 4, stuffs: 2, held: 3, doubt: 1}
	small = size{boxes: 5, stuffs: 3, held: 6, doubt: 2}
	large = size{boxes: api.MaxMixBoxes, stuffs: api.MaxMixStuffs, held: api.MaxMixHeld, doubt: 150}
)

// truth is whose boxes truly are, and what is in them: for each box a number of each stuff.
type truth struct {
	way  []int
	held [][]int
}

// anyTruth makes a truth at random, and the load that is written down of it: spans that have the true numbers. Many boxes are alike, so that there are several ways.
func anyTruth(r *rand.Rand, z size) (truth, api.MixLoad) {
	carriers, stuffs, doubt := oneOf(r, 1, 2, 2, 3, 3, 3), between(r, 1, z.stuffs), between(r, 0, z.doubt)
	usual := numbers(between(r, 0, z.held), between(r, 0, z.held))
	var u truth
	l := load(nil)
	sums := make([][]int, carriers)
	for c := range sums {
		sums[c] = make([]int, stuffs)
		l.Bills = append(l.Bills, bill(0))
	}
	for range max(between(r, 0, z.boxes), between(r, 0, z.boxes)) {
		carrier := r.Intn(carriers)
		u.way = append(u.way, carrier)
		l.Bills[carrier].Boxes++
		var held []int
		var weighed api.MixBox
		for stuff := range stuffs {
			n := oneOf(r, usual[0], usual[0], usual[1], between(r, 0, z.held))
			held = append(held, n)
			sums[carrier][stuff] += n
			weighed.Held = append(weighed.Held, around(r, n, doubt, api.MaxMixHeld))
		}
		u.held = append(u.held, held)
		l.Boxes = append(l.Boxes, weighed)
	}
	for c := range sums {
		for _, n := range sums[c] {
			l.Bills[c].Held = append(l.Bills[c].Held, around(r, n, doubt, api.MaxMixBill))
		}
	}
	return u, l
}

// anyLoad makes a valid load at random, which often has no way.
func anyLoad(r *rand.Rand, z size) api.MixLoad {
	_, l := anyTruth(r, z)
	for range between(r, 0, 3) {
		held := l.Bills[r.Intn(len(l.Bills))].Held
		most := api.MaxMixBill
		if len(l.Boxes) > 0 && r.Intn(3) > 0 {
			held, most = l.Boxes[r.Intn(len(l.Boxes))].Held, api.MaxMixHeld
		}
		held[r.Intn(len(held))] = around(r, between(r, 0, z.held), z.doubt, most)
	}
	if r.Intn(8) == 0 {
		l.Bills[r.Intn(len(l.Bills))].Boxes = between(r, 0, len(l.Boxes))
	}
	if mix.Check(l) != api.OK {
		panic("not valid")
	}
	return l
}

// lists yields all lists of so many carriers. It is one list that changes.
func lists(long, carriers int) iter.Seq[[]int] {
	return func(yield func([]int) bool) {
		l := make([]int, long)
		var from func(k int) bool
		from = func(k int) bool {
			if k == long {
				return yield(l)
			}
			for c := range carriers {
				l[k] = c
				if !from(k + 1) {
					return false
				}
			}
			return true
		}
		from(0)
	}
}

// sumsOf returns which sums of the numbers of some spans, one of each, are in a span; of wrong boxes any number is taken, from 0 on.
func sumsOf(l []api.Span, wrong []bool, said api.Span) []int {
	sums := map[int]bool{0: true}
	for k, s := range l {
		if wrong[k] {
			s = to(0, said.High)
		}
		more := map[int]bool{}
		for n := s.Low; n <= s.High; n++ {
			for sum := range sums {
				if sum+n <= said.High {
					more[sum+n] = true
				}
			}
		}
		sums = more
	}
	var found []int
	for n := said.Low; n <= said.High; n++ {
		if sums[n] {
			found = append(found, n)
		}
	}
	return found
}

// sharesIn returns what a carrier can have of a stuff in a way, of what the bill says; or false if there are not as many boxes as the bill says.
func sharesIn(l api.MixLoad, way []int, wrong []int, carrier, stuff int) ([]int, bool) {
	var held []api.Span
	var free []bool
	for k, c := range way {
		if c == carrier {
			held = append(held, l.Boxes[k].Held[stuff])
			free = append(free, slices.Contains(wrong, k))
		}
	}
	return sumsOf(held, free, l.Bills[carrier].Held[stuff]), len(held) == l.Bills[carrier].Boxes
}

// isWay reports whether a list is a way when some boxes are wrong.
func isWay(l api.MixLoad, way []int, wrong ...int) bool {
	for carrier, b := range l.Bills {
		for stuff := range b.Held {
			if sums, fine := sharesIn(l, way, wrong, carrier, stuff); !fine || len(sums) == 0 {
				return false
			}
		}
	}
	return true
}

// allWays returns all ways of a load, by trying all lists.
func allWays(l api.MixLoad) [][]int {
	var all [][]int
	for way := range lists(len(l.Boxes), len(l.Bills)) {
		if isWay(l, way) {
			all = append(all, slices.Clone(way))
		}
	}
	return all
}

// hasWay reports whether a load has a way when some boxes are wrong, by trying all lists.
func hasWay(l api.MixLoad, wrong ...int) bool {
	for way := range lists(len(l.Boxes), len(l.Bills)) {
		if isWay(l, way, wrong...) {
			return true
		}
	}
	return false
}

// left returns the ways that give a box to a carrier.
func left(ways [][]int, box, carrier int) [][]int {
	return slices.DeleteFunc(slices.Clone(ways), func(way []int) bool { return way[box] != carrier })
}

// manyWays returns how many ways there are, by Ways, which TestAllWays finds to be right.
func manyWays(l api.MixLoad) int {
	many, _, e := mix.Ways(l)
	if e != api.OK && e != api.ErrState {
		panic(e)
	}
	return many
}

// answered returns a load of two stuffs at most when it was said whose some boxes are: these boxes have marks of one stuff more, which are in the bills of their carriers.
func answered(l api.MixLoad, said map[int]int) api.MixLoad {
	marks := make([]int, len(l.Bills))
	told := load(nil)
	for k, b := range l.Boxes {
		mark := 0
		if carrier, ok := said[k]; ok {
			mark = 1 << k
			marks[carrier] += mark
		}
		told.Boxes = append(told.Boxes, box(slices.Concat(b.Held, spans(at(mark)))...))
	}
	for c, b := range l.Bills {
		told.Bills = append(told.Bills, bill(b.Boxes, slices.Concat(b.Held, spans(at(marks[c])))...))
	}
	return told
}
