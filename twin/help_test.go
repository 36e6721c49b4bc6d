package twin_test

import (
	"cmp"
	"iter"
	"math/rand"
	"slices"

	"panache/api"
	"panache/twin"
)

func to(low, high int) api.Span { return api.Span{Low: low, High: high} }

// at is the span of a number that is known.
func at(n int) api.Span { return to(n, n) }

func spans(l ...api.Span) []api.Span { return l }

// numbers returns its arguments.
func numbers(l ...int) []int { return l }

func fan(measures ...int) api.TwinFan { return api.TwinFan{Measures: measures} }

func fans(l ...api.TwinFan) []api.TwinFan { return l }

// slips returns the slips of measures and fans that follow each other.
func slips(l ...int) []api.TwinSlip {
	var all []api.TwinSlip
	for k := 0; k < len(l); k += 2 {
		all = append(all, api.TwinSlip{Measure: l[k], Fan: l[k+1]})
	}
	return all
}

// gauge is one of a single measure.
func gauge(off, miss int, copied api.Span) api.TwinGauge {
	return api.TwinGauge{Off: numbers(off), Make: numbers(miss), Copy: spans(copied)}
}

// gauges is one with the measures of some.
func gauges(l ...api.TwinGauge) api.TwinGauge {
	var g api.TwinGauge
	for _, x := range l {
		g.Off, g.Make, g.Copy = append(g.Off, x.Off...), append(g.Make, x.Make...), append(g.Copy, x.Copy...)
	}
	return g
}

// single are fans of a single measure.
func single(measures ...int) []api.TwinFan {
	var l []api.TwinFan
	for _, n := range measures {
		l = append(l, fan(n))
	}
	return l
}

// The gauge and the fans of the chapter's examples.
func exampleGauge() api.TwinGauge { return gauges(gauge(1, 3, to(-4, -2)), gauge(2, 0, at(0))) }

func example() []api.TwinFan { return fans(fan(100, 50), fan(97, 52), fan(94, 50)) }

// exampleWrong are those of the example 2.
func exampleWrong() []api.TwinFan { return fans(fan(100, 50), fan(97, 52), fan(80, 50)) }

func between(r *rand.Rand, low, high int) int { return low + r.Intn(high-low+1) }

func oneOf[T any](r *rand.Rand, l ...T) T { return l[r.Intn(len(l))] }

func compareSlips(a, b api.TwinSlip) int {
	return cmp.Or(cmp.Compare(a.Measure, b.Measure), cmp.Compare(a.Fan, b.Fan))
}

// fewerSlips compares lists: first by how long they are, then by their elements.
func fewerSlips(a, b []api.TwinSlip) int {
	return cmp.Or(cmp.Compare(len(a), len(b)), slices.CompareFunc(a, b, compareSlips))
}

// size says how large gauges and lists of fans are that are made at random.
type size struct{ fans, measures, off, make int }

// tiny are those whose truths can all be looked at, large are those that can be.
var (
	tiny  = size{fans: 3, measures: 2, off: 1, make: 3}
	few   = size{fans: 3, measures: 1, off: 3, make: 6}
	many  = size{fans: 5, measures: 1, off: 1, make: 3}
	large = size{fans: api.MaxTwinFans, measures: api.MaxTwinMeasures, off: api.MaxTwinOff, make: 12}
)

// anyGauge makes a valid gauge at random.
func anyGauge(r *rand.Rand, z size) api.TwinGauge {
	var g api.TwinGauge
	for range between(r, 1, z.measures) {
		low := between(r, -z.make, z.make)
		g = gauges(g, gauge(between(r, 0, z.off), between(r, 0, z.make), to(low, min(api.MaxTwinMake, low+between(r, 0, 4)))))
	}
	return g
}

// anyFamily makes a family of so many fans at random.
func anyFamily(r *rand.Rand, fans int) []int {
	family, order := make([]int, fans), r.Perm(fans)
	for k, f := range order {
		family[f] = -1
		if k > 0 && r.Intn(4) > 0 {
			family[f] = order[r.Intn(k)]
		}
	}
	return family
}

// anyTruth makes fans at random as they truly are: those of one pattern, or those of a family.
func anyTruth(r *rand.Rand, g api.TwinGauge, z size) (truth [][]int, pattern, family []int) {
	many := max(between(r, 0, z.fans), between(r, 0, z.fans))
	for range g.Off {
		pattern = append(pattern, oneOf(r, 0, api.MaxTwinLong, between(r, 0, api.MaxTwinLong)))
	}
	family = anyFamily(r, many)
	truth = make([][]int, many)
	var born func(f int) []int
	born = func(f int) []int {
		if truth[f] != nil {
			return truth[f]
		}
		for m, n := range pattern {
			if family[f] < 0 {
				n += between(r, -g.Make[m], g.Make[m])
			} else {
				n = born(family[f])[m] + between(r, g.Copy[m].Low, g.Copy[m].High)
			}
			truth[f] = append(truth[f], n)
		}
		return truth[f]
	}
	for f := range truth {
		born(f)
	}
	return truth, pattern, family
}

// twinTruth makes fans of one pattern at random, as they truly are.
func twinTruth(r *rand.Rand, g api.TwinGauge, z size) (truth [][]int, pattern []int) {
	_, pattern, _ = anyTruth(r, g, z)
	for range max(between(r, 0, z.fans), between(r, 0, z.fans)) {
		var made []int
		for m, n := range pattern {
			made = append(made, n+between(r, -g.Make[m], g.Make[m]))
		}
		truth = append(truth, made)
	}
	return truth, pattern
}

// shown returns what gauges show of fans, or false if that is no valid measure.
func shown(r *rand.Rand, g api.TwinGauge, truth [][]int) ([]api.TwinFan, bool) {
	var l []api.TwinFan
	for _, u := range truth {
		var a api.TwinFan
		for m, n := range u {
			a.Measures = append(a.Measures, n+between(r, -g.Off[m], g.Off[m]))
		}
		l = append(l, a)
	}
	return l, twin.Check(g, l) == api.OK
}

// anyTwins makes fans of one pattern at random.
func anyTwins(r *rand.Rand, z size) (g api.TwinGauge, truth [][]int, pattern []int, l []api.TwinFan) {
	for fine := false; !fine; {
		g = anyGauge(r, z)
		truth, pattern = twinTruth(r, g, z)
		l, fine = shown(r, g, truth)
	}
	return g, truth, pattern, l
}

// anyCopies makes fans of a family at random.
func anyCopies(r *rand.Rand, z size) (g api.TwinGauge, truth [][]int, family []int, l []api.TwinFan) {
	for fine := false; !fine; {
		g = anyGauge(r, z)
		truth, _, family = anyTruth(r, g, z)
		l, fine = shown(r, g, truth)
	}
	return g, truth, family, l
}

// anyFans makes fans at random, of which often some measures are wrong.
func anyFans(r *rand.Rand, z size) (api.TwinGauge, []api.TwinFan) {
	g, _, _, l := anyCopies(r, z)
	if r.Intn(2) == 0 {
		g, _, _, l = anyTwins(r, z)
	}
	for range between(r, 0, 3) {
		if len(l) > 0 {
			mistake(r, l, z.make+z.off)
		}
	}
	return g, l
}

// mistake makes one measure wrong at random.
func mistake(r *rand.Rand, l []api.TwinFan, far int) api.TwinSlip {
	s := api.TwinSlip{Measure: r.Intn(len(l[0].Measures)), Fan: r.Intn(len(l))}
	n := &l[s.Fan].Measures[s.Measure]
	*n = max(0, min(api.MaxTwinLong, *n+between(r, -2*far, 2*far)))
	return s
}

// lists yields all lists of so many numbers from low to high. It is one list that changes.
func lists(long, low, high int) iter.Seq[[]int] {
	return func(yield func([]int) bool) {
		l := make([]int, long)
		var from func(k int) bool
		from = func(k int) bool {
			if k == long {
				return yield(l)
			}
			for n := low; n <= high; n++ {
				l[k] = n
				if !from(k + 1) {
					return false
				}
			}
			return true
		}
		from(0)
	}
}

// truthsOf returns all that a fan can truly be.
func truthsOf(g api.TwinGauge, a api.TwinFan) [][]int {
	all := [][]int{nil}
	for m, n := range a.Measures {
		var more [][]int
		for _, known := range all {
			for off := -g.Off[m]; off <= g.Off[m]; off++ {
				more = append(more, append(slices.Clone(known), n+off))
			}
		}
		all = more
	}
	return all
}

// truths yields all truths of some fans. It is one list that changes.
func truths(g api.TwinGauge, l []api.TwinFan) iter.Seq[[][]int] {
	return func(yield func([][]int) bool) {
		now := make([][]int, len(l))
		var from func(k int) bool
		from = func(k int) bool {
			if k == len(l) {
				return yield(now)
			}
			for _, u := range truthsOf(g, l[k]) {
				now[k] = u
				if !from(k + 1) {
					return false
				}
			}
			return true
		}
		from(0)
	}
}

// patternsIn returns all integers that can be a measure of the pattern of some fans in a truth. There is a fan at least.
func patternsIn(g api.TwinGauge, truth [][]int, measure int, some []int) []int {
	var l []int
	for p := truth[some[0]][measure] - g.Make[measure]; p <= truth[some[0]][measure]+g.Make[measure]; p++ {
		missed := func(f int) bool { return max(truth[f][measure]-p, p-truth[f][measure]) > g.Make[measure] }
		if !slices.ContainsFunc(some, missed) {
			l = append(l, p)
		}
	}
	return l
}

// twinsIn reports whether some fans are twins in a truth.
func twinsIn(g api.TwinGauge, truth [][]int, some []int) bool {
	for m := range g.Off {
		if len(some) > 0 && len(patternsIn(g, truth, m, some)) == 0 {
			return false
		}
	}
	return true
}

// copyIn reports whether a fan b is a copy of a fan a in a truth.
func copyIn(g api.TwinGauge, a, b []int) bool {
	for m, c := range g.Copy {
		if d := b[m] - a[m]; d < c.Low || d > c.High {
			return false
		}
	}
	return true
}

// rightIn reports whether a family is right in a truth.
func rightIn(g api.TwinGauge, truth [][]int, family []int) bool {
	for f, of := range family {
		if of >= 0 && !copyIn(g, truth[of], truth[f]) {
			return false
		}
	}
	return true
}

// familiesOf returns all families of so many fans.
func familiesOf(fans int) [][]int {
	var all [][]int
	for l := range lists(fans, -1, fans-1) {
		known := map[int]bool{-1: true}
		for range l {
			for f, of := range l {
				if known[of] {
					known[f] = true
				}
			}
		}
		if len(known) == fans+1 {
			all = append(all, slices.Clone(l))
		}
	}
	return all
}

// originalsIn returns how many originals a family has.
func originalsIn(family []int) int {
	many := 0
	for _, of := range family {
		if of < 0 {
			many++
		}
	}
	return many
}

// fewestOriginals returns those of some families that have as few originals as any.
func fewestOriginals(families [][]int) [][]int {
	fewest := originalsIn(slices.MinFunc(families, func(a, b []int) int { return cmp.Compare(originalsIn(a), originalsIn(b)) }))
	return slices.DeleteFunc(families, func(f []int) bool { return originalsIn(f) > fewest })
}

// valuesOf returns all integers that a measure of each fan can truly be; that of fans that are wrong can be any that is near that of some.
func valuesOf(g api.TwinGauge, l []api.TwinFan, measure int, wrong []api.TwinSlip) [][]int {
	low, high, values := api.MaxTwinLong, 0, make([][]int, len(l))
	for _, a := range l {
		low, high = min(low, a.Measures[measure]), max(high, a.Measures[measure])
	}
	far := len(l)*max(g.Copy[measure].High, -g.Copy[measure].Low) + g.Off[measure]
	for f, a := range l {
		from, until := a.Measures[measure]-g.Off[measure], a.Measures[measure]+g.Off[measure]
		if slices.Contains(wrong, api.TwinSlip{Measure: measure, Fan: f}) {
			from, until = low-far, high+far
		}
		for n := from; n <= until; n++ {
			values[f] = append(values[f], n)
		}
	}
	return values
}

// fitting returns the values of a fan with which those of all that are kin to it can be in a family, but for one of them.
func fitting(copied api.Span, values [][]int, family []int, f, but int) []int {
	left := values[f]
	for other := range family {
		if other == but || family[other] != f && family[f] != other {
			continue
		}
		theirs := fitting(copied, values, family, other, f)
		left = slices.DeleteFunc(slices.Clone(left), func(n int) bool {
			return !slices.ContainsFunc(theirs, func(o int) bool {
				d := o - n
				if family[f] == other {
					d = n - o
				}
				return copied.Low <= d && d <= copied.High
			})
		})
	}
	return left
}

// isRight reports whether a family is right in some truth when some measures are wrong, by looking at all integers of each measure.
func isRight(g api.TwinGauge, l []api.TwinFan, family []int, wrong ...api.TwinSlip) bool {
	for m, c := range g.Copy {
		values := valuesOf(g, l, m, wrong)
		for f := range l {
			if len(fitting(c, values, family, f, -1)) == 0 {
				return false
			}
		}
	}
	return true
}

// canBeTwins reports whether fans are twins in some truth when some measures are wrong, by looking at all patterns.
func canBeTwins(g api.TwinGauge, l []api.TwinFan, wrong ...api.TwinSlip) bool {
	for m := range g.Off {
		values := valuesOf(g, l, m, wrong)
		all := slices.Concat(values...)
		fits := func(p int) bool {
			return !slices.ContainsFunc(values, func(theirs []int) bool {
				return !slices.ContainsFunc(theirs, func(n int) bool { return max(n-p, p-n) <= g.Make[m] })
			})
		}
		slices.Sort(all)
		found := len(all) == 0
		for k := 0; !found && k < len(all); k++ {
			found = fits(all[k]-g.Make[m]) || fits(all[k]+g.Make[m])
		}
		if !found {
			return false
		}
	}
	return true
}

// sets yields all sets of measures of some fans, ascending each.
func sets(l []api.TwinFan) iter.Seq[[]api.TwinSlip] {
	return func(yield func([]api.TwinSlip) bool) {
		if len(l) == 0 {
			yield(nil)
			return
		}
		for set := range 1 << (len(l) * len(l[0].Measures)) {
			var some []api.TwinSlip
			for k := range len(l) * len(l[0].Measures) {
				if set&(1<<k) != 0 {
					some = append(some, api.TwinSlip{Measure: k / len(l), Fan: k % len(l)})
				}
			}
			if !yield(some) {
				return
			}
		}
	}
}

// hull returns the span from the least to the greatest number of a list that is not empty.
func hull(l []int) api.Span { return to(slices.Min(l), slices.Max(l)) }
