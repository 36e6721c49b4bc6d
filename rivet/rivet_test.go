package rivet_test

import (
	"math"
	"slices"
	"testing"

	"panache/api"
	"panache/rivet"
)

const (
	leaf = api.RivetLeaf
	foot = api.RivetFoot
	open = api.RivetOpen
)

// errorsOf returns the errors of all functions with a fan, whose other arguments are not valid.
func errorsOf(f api.RivetFan) []api.Errno {
	_, a := rivet.Opens(f)
	_, b := rivet.Stops(f)
	_, c := rivet.Compare(f, api.RivetFan{Gaps: make([]api.RivetGap, 41)})
	_, d := rivet.Compare(example(), f)
	_, _, e := rivet.Widen(f, -1)
	_, g := rivet.Wrong(f, to(3, 2))
	_, h := rivet.Sticks(f, 361)
	_, i := rivet.Pleat(f, -1)
	return []api.Errno{rivet.Check(f), a, b, c, d, e, g, h, i}
}

// P5.1: all functions with a fan have its errors first.
func TestCheck(t *testing.T) {
	far, near := at(9), at(1)
	wrong := gap(to(1, 0), at(0))
	for i, c := range []struct {
		f api.RivetFan
		e api.Errno
	}{
		{example(), api.OK}, {fan(far, near), api.OK}, {fan(at(2), at(1)), api.OK}, {fan(at(5000), at(4999)), api.OK}, {fan(to(4000, 5000), to(1, 3999)), api.OK},
		{fan(at(0), at(0)), api.ErrRange}, {api.RivetFan{}, api.ErrRange}, {fan(far, at(0)), api.ErrRange}, {fan(far, at(-1)), api.ErrRange}, {fan(far, to(0, 5)), api.ErrRange}, {fan(far, to(5, 4)), api.ErrRange},
		{fan(at(5001), near), api.ErrRange}, {fan(to(9, 5001), near), api.ErrRange}, {fan(to(9, 8), near), api.ErrRange}, {fan(to(0, 9), near), api.ErrRange}, {fan(to(-9, 9), near), api.ErrRange},
		{fan(at(5), at(5)), api.ErrRange}, {fan(at(5), at(6)), api.ErrRange}, {fan(to(5, 9), to(3, 5)), api.ErrRange}, {fan(to(6, 9), to(3, 5)), api.OK}, {fan(to(5, 9), to(3, 7)), api.ErrRange}, // not in all truths
		{fan(to(math.MinInt, math.MaxInt), near), api.ErrRange}, {fan(at(math.MaxInt), at(math.MinInt)), api.ErrRange}, {fan(far, to(math.MinInt, math.MaxInt)), api.ErrRange},
		{fan(far, near, make([]api.RivetGap, 40)...), api.OK}, {fan(far, near, make([]api.RivetGap, 41)...), api.ErrLong},
		{fan(far, near, arcs(0, 0)), api.OK}, {fan(far, near, arcs(1000, 500)), api.OK}, {fan(far, near, gap(to(0, 1000), to(0, 500))), api.OK},
		{fan(far, near, arcs(1001, 0)), api.ErrArg}, {fan(far, near, gap(to(0, 1001), at(0))), api.ErrArg}, {fan(far, near, arcs(-1, 0)), api.ErrArg}, {fan(far, near, gap(to(-1, 5), at(0))), api.ErrArg}, {fan(far, near, gap(to(6, 5), at(0))), api.ErrArg},
		{fan(far, near, arcs(0, 501)), api.ErrArg}, {fan(far, near, gap(at(0), to(0, 501))), api.ErrArg}, {fan(far, near, arcs(0, -1)), api.ErrArg}, {fan(far, near, gap(at(0), to(-1, 5))), api.ErrArg}, {fan(far, near, gap(at(0), to(6, 5))), api.ErrArg},
		{fan(far, near, arcs(3, 3), arcs(3, 3), wrong), api.ErrArg}, {fan(far, near, gap(to(math.MinInt, math.MaxInt), to(math.MinInt, math.MaxInt))), api.ErrArg},
		{fan(near, far, slices.Repeat([]api.RivetGap{wrong}, 41)...), api.ErrRange}, {fan(near, far, wrong), api.ErrRange}, {fan(far, near, slices.Repeat([]api.RivetGap{wrong}, 41)...), api.ErrLong}, // the error that is named first
	} {
		l := errorsOf(c.f)
		if l[0] != c.e {
			t.Error(i, l[0])
		}
		if c.e != api.OK && slices.ContainsFunc(l, func(e api.Errno) bool { return e != c.e }) {
			t.Error(i, l)
		}
	}
}

// P5.2
func TestOpens(t *testing.T) {
	far, near := to(900, 1000), to(40, 50)
	for i, c := range []struct {
		f    api.RivetFan
		want api.Span
	}{
		{example(), to(16, 19)}, // example 1
		{fan(far, near), at(0)}, {fan(at(9), at(1), arcs(0, 0), arcs(0, 500), arcs(1000, 0)), at(0)},
		{degreeFan(71), at(1)}, {degreeFan(70), at(0)}, {degreeFan(72), at(1)}, {degreeFan(141), at(1)}, {degreeFan(142), at(2)}, {footFan(71), at(1)}, {footFan(70), at(0)}, {footFan(500), at(7)},
		{degreeFan(35, 36), at(1)}, {degreeFan(35, 35), at(0)}, {degreeFan(24, 24, 23), at(1)}, {footFan(70, 70, 70), at(2)}, // rounded down once, at the end
		{degreeFan(slices.Repeat([]int{639}, 40)...), at(360)}, {degreeFan(append(slices.Repeat([]int{639}, 39), 638)...), at(359)}, {degreeFan(append(slices.Repeat([]int{639}, 39), 710)...), at(360)}, {degreeFan(slices.Repeat([]int{1000}, 40)...), at(360)}, // no farther than 360
		{fan(at(2), at(1), slices.Repeat([]api.RivetGap{arcs(1000, 500)}, 40)...), at(360)}, {fan(at(4068), at(1), slices.Repeat([]api.RivetGap{gap(to(142, 1000), at(500))}, 40)...), to(80, 360)},
		// With the true half turn, which is shorter, this would be 346.
		{fan(at(3647), at(436), append(slices.Repeat([]api.RivetGap{arcs(1000, 500)}, 21), arcs(940, 500), arcs(1000, 10))...), at(345)},
		{fan(at(4068), at(1), gap(to(71, 142), at(500))), to(1, 2)}, {fan(to(4068, 4069), at(1), arcs(71, 500)), to(0, 1)}, {fan(to(4067, 4068), at(1), arcs(71, 500)), at(1)}, {fan(at(5000), at(4068), gap(at(1000), to(70, 71))), to(0, 1)}, {fan(at(5000), to(4068, 4069), arcs(1000, 71)), to(0, 1)},
		{fan(at(1000), at(10), gap(to(100, 200), to(1, 2))), to(5, 11)}, {fan(at(1000), at(10), gap(to(100, 200), at(1))), at(5)}, {fan(at(1000), at(10), gap(at(100), to(1, 2))), at(5)},
	} {
		if s, e := rivet.Opens(c.f); s != c.want || e != api.OK {
			t.Error(i, s, e)
		}
	}
}

// P5.3
func TestStops(t *testing.T) {
	far, near := to(100, 200), to(10, 20)
	for i, c := range []struct {
		f    api.RivetFan
		want []api.RivetStop
	}{
		{example(), []api.RivetStop{leaf, open}}, // example 2
		{fan(far, near), nil},
		{fan(at(100), at(10), arcs(49, 5), arcs(50, 5), arcs(51, 5), arcs(0, 0), arcs(0, 1), arcs(1, 0)), []api.RivetStop{leaf, open, foot, open, leaf, foot}}, // both at once: neither
		{fan(far, near, gap(to(0, 49), to(10, 99)), gap(to(0, 50), to(10, 99)), gap(to(0, 49), to(9, 99))), []api.RivetStop{leaf, open, open}},                 // 49 / 100 and 10 / 20
		{fan(far, near, gap(to(101, 999), to(0, 5)), gap(to(100, 999), to(0, 5)), gap(to(101, 999), to(0, 6))), []api.RivetStop{foot, open, open}},             // 5 / 10 and 101 / 200
		{fan(at(100), near, arcs(49, 10), arcs(50, 10), arcs(100, 10), arcs(101, 10)), []api.RivetStop{leaf, open, open, foot}}, {fan(far, at(10), arcs(49, 5), arcs(50, 5), arcs(100, 5), arcs(101, 5)), []api.RivetStop{leaf, open, open, foot}},
		{fan(at(5000), at(1), slices.Repeat([]api.RivetGap{arcs(1000, 500)}, 40)...), slices.Repeat([]api.RivetStop{leaf}, 40)},
	} {
		if l, e := rivet.Stops(c.f); !slices.Equal(l, c.want) || e != api.OK {
			t.Error(i, l, e)
		}
	}
}

// P5.4
func TestCompare(t *testing.T) {
	thousand := slices.Repeat([]int{1000}, 40)
	for i, c := range []struct {
		a, b api.RivetFan
		want api.RivetMore
	}{
		{example(), example(), api.RivetEither}, {degreeFan(71), degreeFan(71), api.RivetEither}, {degreeFan(71), footFan(71), api.RivetEither}, {degreeFan(), footFan(), api.RivetEither}, {degreeFan(), degreeFan(0), api.RivetEither},
		{degreeFan(72), degreeFan(71), api.RivetFirst}, {degreeFan(72), footFan(71), api.RivetFirst}, {footFan(71), degreeFan(72), api.RivetSecond}, {degreeFan(1), degreeFan(), api.RivetFirst}, {degreeFan(), footFan(1), api.RivetSecond}, // not in degrees
		{fan(at(4999), at(1), arcs(1, 500)), fan(at(5000), at(1), arcs(1, 500)), api.RivetFirst}, {fan(at(5000), at(1), arcs(1000, 500)), fan(at(4999), at(1), arcs(1000, 500)), api.RivetSecond},
		{degreeFan(thousand...), degreeFan(thousand[1:]...), api.RivetFirst}, {degreeFan(thousand[:39]...), degreeFan(append(thousand[:39:39], 1)...), api.RivetSecond}, {degreeFan(thousand...), degreeFan(append(thousand[:39:39], 999)...), api.RivetFirst}, // beyond 360
		{fan(at(2), at(1), slices.Repeat([]api.RivetGap{arcs(1000, 500)}, 40)...), fan(at(2), at(1), slices.Repeat([]api.RivetGap{arcs(1000, 499)}, 40)...), api.RivetFirst},
		{fan(at(100), at(10), gap(to(30, 40), at(99))), fan(at(100), at(10), gap(to(20, 29), at(99))), api.RivetFirst}, {fan(at(100), at(10), gap(to(30, 40), at(99))), fan(at(100), at(10), gap(to(20, 30), at(99))), api.RivetEither},
		{fan(at(100), at(10), gap(to(20, 29), at(99))), fan(at(100), at(10), gap(to(30, 40), at(99))), api.RivetSecond}, {fan(at(100), at(10), gap(to(20, 30), at(99))), fan(at(100), at(10), gap(to(30, 40), at(99))), api.RivetEither},
		{fan(to(100, 110), at(10), arcs(30, 99)), fan(to(111, 120), at(10), arcs(30, 99)), api.RivetFirst}, {fan(to(100, 110), at(10), arcs(30, 99)), fan(to(110, 120), at(10), arcs(30, 99)), api.RivetEither}, {fan(at(900), to(20, 30), arcs(999, 9)), fan(at(900), to(10, 19), arcs(999, 9)), api.RivetSecond}, {fan(at(900), to(20, 30), arcs(999, 9)), fan(at(900), to(10, 20), arcs(999, 9)), api.RivetEither},
	} {
		if m, e := rivet.Compare(c.a, c.b); m != c.want || e != api.OK {
			t.Error(i, m, e)
		}
	}
}

// P5.1: Compare has the errors of its first fan, then those of the second one.
func TestCompareErrors(t *testing.T) {
	byRange, long, arg := fan(at(1), at(1)), fan(at(2), at(1), make([]api.RivetGap, 41)...), fan(at(2), at(1), arcs(-1, 0))
	for i, c := range []struct {
		a, b api.RivetFan
		e    api.Errno
	}{
		{arg, long, api.ErrArg}, {arg, byRange, api.ErrArg}, {long, byRange, api.ErrLong}, {byRange, arg, api.ErrRange}, {example(), arg, api.ErrArg}, {arg, example(), api.ErrArg}, {example(), byRange, api.ErrRange}, {example(), long, api.ErrLong},
	} {
		if m, e := rivet.Compare(c.a, c.b); m != 0 || e != c.e {
			t.Error(i, m, e)
		}
	}
}

// P5.5
func TestWiden(t *testing.T) {
	for i, c := range []struct {
		f            api.RivetFan
		more         int
		gap, degrees int
		e            api.Errno
	}{
		{example(), 100, 0, 18, api.OK}, // example 3
		{example(), 0, 0, 16, api.OK}, {degreeFan(71, 71, 71), 71, 0, 4, api.OK}, {degreeFan(71, 71, 71), 0, 0, 3, api.OK}, {degreeFan(71), 70, 0, 1, api.OK},
		{fan(at(4068), at(100), arcs(71, 1), arcs(71, 500)), 71, 1, 2, api.OK}, {fan(at(4068), at(100), arcs(71, 1), arcs(71, 500), arcs(71, 500)), 71, 1, 3, api.OK}, {fan(at(4068), at(100), arcs(71, 1), arcs(71, 2), arcs(71, 1)), 142, 0, 2, api.OK}, {fan(at(4068), at(100), arcs(71, 1), arcs(71, 5), arcs(71, 1)), 142, 1, 4, api.OK}, // what the notch leaves
		{fan(at(4068), at(100), arcs(71, 3), arcs(71, 4)), 60, 0, 2, api.OK}, {fan(at(4068), at(1000), arcs(71, 20), arcs(71, 21)), 71, 0, 2, api.OK},
		{fan(at(4068), at(1000), arcs(71, 20), arcs(71, 36)), 71, 1, 3, api.OK}, // in degrees, not in angles: 20 / 1000 is a 1.14th, 36 / 1000 a 2.06th
		{fan(at(4068), at(1), gap(to(10, 1000), at(500)), gap(to(10, 10), at(500))), 51, 0, 1, api.OK}, {fan(at(4068), at(1), gap(to(0, 900), at(500)), gap(to(0, 1000), at(500))), 71, 0, 1, api.OK}, {fan(to(4068, 5000), at(1), arcs(0, 500)), 71, 0, 0, api.OK},
		{degreeFan(1000), 1000, 0, 28, api.OK}, {degreeFan(slices.Repeat([]int{1000}, 40)...), 1000, 0, 360, api.OK}, {footFan(71, 71), 1000, 0, 2, api.OK}, {degreeFan(1000), 136, 0, 16, api.OK}, // beyond MaxRivetLeaf
		{degreeFan(0), 1000, 0, 14, api.OK}, {degreeFan(0), 1001, 0, 0, api.ErrForm}, {degreeFan(0), -1, 0, 0, api.ErrForm}, {degreeFan(0), math.MaxInt, 0, 0, api.ErrForm}, {degreeFan(0), math.MinInt, 0, 0, api.ErrForm},
		{degreeFan(), 1000, 0, 0, api.ErrNone}, {degreeFan(), 0, 0, 0, api.ErrNone}, {degreeFan(), -1, 0, 0, api.ErrForm}, {degreeFan(), 1001, 0, 0, api.ErrForm},
	} {
		if gap, degrees, e := rivet.Widen(c.f, c.more); gap != c.gap || degrees != c.degrees || e != c.e {
			t.Error(i, gap, degrees, e)
		}
	}
}

// P5.6
func TestWrong(t *testing.T) {
	three := degreeFan(71, 142, 213)
	doubt := fan(at(4068), at(1), gap(to(71, 142), at(500)), gap(to(213, 284), at(500))) // 4 to 6 degrees
	for i, c := range []struct {
		f    api.RivetFan
		seen api.Span
		want []int
		e    api.Errno
	}{
		{example(), to(10, 14), []int{0}, api.OK}, {example(), to(25, 30), []int{0}, api.OK}, // example 4
		{example(), to(0, 3), []int{0, 1}, api.OK}, {example(), to(0, 4), []int{0}, api.OK}, {example(), at(10), []int{0}, api.OK}, {example(), at(11), []int{0}, api.OK}, {example(), to(12, 15), []int{0}, api.OK},
		{example(), at(16), nil, api.ErrNone}, {example(), at(19), nil, api.ErrNone}, {example(), at(18), nil, api.ErrNone}, {example(), to(0, 16), nil, api.ErrNone}, {example(), to(19, 360), nil, api.ErrNone}, {example(), to(0, 360), nil, api.ErrNone}, {example(), at(15), []int{0}, api.OK}, {example(), at(20), []int{0}, api.OK}, {example(), at(360), []int{0}, api.OK}, {example(), at(0), []int{0, 1}, api.OK},
		{three, at(5), []int{0}, api.OK}, {three, at(4), []int{1}, api.OK}, {three, at(3), []int{2}, api.OK}, {three, at(2), []int{0, 2}, api.OK}, {three, at(1), []int{1, 2}, api.OK}, {three, at(0), []int{0, 1, 2}, api.OK}, {three, at(7), []int{0}, api.OK}, {three, at(6), nil, api.ErrNone}, // the fewest, then the smallest
		{degreeFan(71, 71, 71, 71), at(2), []int{0, 1}, api.OK}, {degreeFan(71, 71, 71, 71), at(1), []int{0, 1, 2}, api.OK}, {degreeFan(0, 0, 71), at(0), []int{2}, api.OK}, {degreeFan(0, 0, 71), at(2), []int{0}, api.OK}, {degreeFan(0), at(1), []int{0}, api.OK},
		{degreeFan(142, 71, 284, 142), at(3), []int{0, 2}, api.OK}, {degreeFan(142, 71, 284, 142), at(4), []int{0, 2}, api.OK}, {degreeFan(71, 142, 284, 142), at(4), []int{0, 2}, api.OK}, {degreeFan(71, 142, 284, 142), at(3), []int{1, 2}, api.OK}, {degreeFan(142, 71, 142, 284), at(5), []int{3}, api.OK}, {degreeFan(142, 71, 142, 284), at(6), []int{3}, api.OK}, {degreeFan(142, 71, 142, 284), at(7), []int{0}, api.OK},
		{degreeFan(141, 1, 142), at(2), []int{0}, api.OK}, {degreeFan(71, 1, 212), at(2), []int{2}, api.OK}, {degreeFan(72, 71, 71), at(2), []int{0}, api.OK}, {degreeFan(71, 72, 141), at(2), []int{1}, api.OK}, {degreeFan(1, 0, 71), at(0), []int{2}, api.OK}, {degreeFan(1, 2, 70), at(0), []int{2}, api.OK}, {degreeFan(1, 4, 69), at(0), []int{1}, api.OK}, // what is left is rounded down
		{doubt, at(6), nil, api.ErrNone}, {doubt, at(4), nil, api.ErrNone}, {doubt, at(7), []int{0}, api.OK}, {doubt, at(3), []int{0}, api.OK}, {doubt, at(2), []int{1}, api.OK}, {doubt, at(1), []int{1}, api.OK}, {doubt, at(0), []int{0, 1}, api.OK},
		{degreeFan(slices.Repeat([]int{1000}, 40)...), at(359), []int{0, 1, 2, 3, 4, 5, 6, 7, 8, 9, 10, 11, 12, 13, 14}, api.OK}, {degreeFan(slices.Repeat([]int{1000}, 40)...), at(360), nil, api.ErrNone},
		{degreeFan(), at(0), nil, api.ErrNone}, {degreeFan(), to(0, 360), nil, api.ErrNone}, {degreeFan(), to(1, 360), nil, api.ErrState}, {degreeFan(), at(360), nil, api.ErrState},
		{three, to(3, 2), nil, api.ErrForm}, {three, to(-1, 2), nil, api.ErrForm}, {three, to(7, 361), nil, api.ErrForm}, {three, to(-1, 6), nil, api.ErrForm}, {three, at(361), nil, api.ErrForm}, {three, to(math.MinInt, math.MaxInt), nil, api.ErrForm}, {degreeFan(), to(1, 0), nil, api.ErrForm}, {degreeFan(), to(0, 361), nil, api.ErrForm}, {degreeFan(), at(361), nil, api.ErrForm},
	} {
		if l, e := rivet.Wrong(c.f, c.seen); !slices.Equal(l, c.want) || e != c.e {
			t.Error(i, l, e)
		}
	}
}

// P5.7
func TestSticks(t *testing.T) {
	for i, c := range []struct {
		f       api.RivetFan
		degrees int
		want    int
		e       api.Errno
	}{
		{example(), 45, 5, api.OK},                                                                                                                                                                         // example 5
		{example(), 0, 1, api.OK}, {example(), 1, 2, api.OK}, {example(), 11, 2, api.OK}, {example(), 12, 3, api.OK}, {example(), 22, 3, api.OK}, {example(), 23, 4, api.OK}, {example(), 360, 33, api.OK}, // 11.459 degrees each
		{degreeFan(71), 1, 2, api.OK}, {degreeFan(70), 1, 3, api.OK}, {degreeFan(71), 40, 41, api.OK}, {degreeFan(71), 41, 0, api.ErrNone}, {degreeFan(71, 1000, 1000), 40, 41, api.OK}, {degreeFan(71, 1000, 1000), 41, 0, api.ErrNone}, {degreeFan(70), 39, 41, api.OK}, {degreeFan(70), 40, 0, api.ErrNone}, // like the first gap
		{degreeFan(639), 360, 41, api.OK}, {degreeFan(638), 360, 0, api.ErrNone}, {degreeFan(638), 359, 41, api.OK}, {degreeFan(1000), 360, 27, api.OK}, {fan(at(2), at(1), arcs(1000, 500)), 360, 2, api.OK}, {footFan(71), 3, 4, api.OK},
		{degreeFan(0), 0, 1, api.OK}, {degreeFan(0), 1, 0, api.ErrNone}, {fan(at(4068), at(1), gap(to(0, 1000), at(500))), 1, 0, api.ErrNone}, {fan(at(4068), at(1), gap(at(1000), to(0, 500))), 1, 0, api.ErrNone}, {fan(at(4068), at(1), gap(to(71, 1000), at(500))), 40, 41, api.OK}, {fan(to(4068, 5000), at(1), arcs(71, 500)), 1, 3, api.OK}, {fan(at(5000), to(4068, 4999), arcs(1000, 71)), 1, 3, api.OK}, // surely
		{degreeFan(), 0, 0, api.ErrNone}, {degreeFan(), 360, 0, api.ErrNone}, {degreeFan(), -1, 0, api.ErrForm}, {degreeFan(), 361, 0, api.ErrForm}, {example(), -1, 0, api.ErrForm}, {example(), 361, 0, api.ErrForm}, {example(), math.MaxInt, 0, api.ErrForm}, {example(), math.MinInt, 0, api.ErrForm},
	} {
		if n, e := rivet.Sticks(c.f, c.degrees); n != c.want || e != c.e {
			t.Error(i, n, e)
		}
	}
}

// P5.8
func TestPleat(t *testing.T) {
	for i, c := range []struct {
		f       api.RivetFan
		degrees int
		want    int
		e       api.Errno
	}{
		{example(), 18, 235, api.OK}, // example 5
		{example(), 0, 0, api.OK}, {example(), 1, 9, api.OK}, {example(), 19, 0, api.ErrNone}, {example(), 360, 0, api.ErrNone},
		{degreeFan(0), 1, 71, api.OK}, {degreeFan(1000), 1, 71, api.OK}, {degreeFan(0), 2, 142, api.OK}, {degreeFan(0, 1000), 1, 36, api.OK}, {degreeFan(0, 0), 2, 71, api.OK}, {degreeFan(0, 0, 0), 14, 332, api.OK}, {degreeFan(0), 14, 994, api.OK}, {degreeFan(0), 15, 0, api.ErrNone}, {fan(at(4092), at(1), arcs(0, 500)), 14, 1000, api.OK}, {fan(at(4093), at(1), arcs(0, 500)), 14, 0, api.ErrNone}, {degreeFan(1000, 1000), 29, 0, api.ErrNone}, {degreeFan(0, 0), 28, 994, api.OK},
		{fan(at(5000), at(1), arcs(0, 500)), 11, 960, api.OK}, {fan(at(5000), at(1), arcs(0, 500)), 12, 0, api.ErrNone}, {fan(at(1000), at(1), arcs(0, 500)), 57, 995, api.OK}, {fan(at(1000), at(1), arcs(0, 500)), 58, 0, api.ErrNone}, {fan(at(4972), at(1), slices.Repeat([]api.RivetGap{arcs(0, 500)}, 40)...), 360, 781, api.OK},
		{fan(at(4068), at(1), slices.Repeat([]api.RivetGap{arcs(0, 500)}, 40)...), 360, 639, api.OK}, {fan(at(3600), at(120), arcs(1000, 3), arcs(1000, 1)), 1, 33, api.OK}, {fan(at(3600), at(120), arcs(1000, 3), arcs(1000, 1)), 2, 0, api.ErrNone}, {fan(to(100, 4068), at(1), arcs(0, 500)), 1, 71, api.OK}, {fan(at(4068), to(1, 100), gap(at(0), to(2, 500))), 1, 71, api.OK}, {fan(at(4068), to(1, 100), gap(at(0), to(1, 500))), 1, 0, api.ErrNone}, // surely
		{degreeFan(), 0, 0, api.OK}, {degreeFan(), 1, 0, api.ErrNone}, {degreeFan(), 360, 0, api.ErrNone}, {degreeFan(), -1, 0, api.ErrForm}, {degreeFan(), 361, 0, api.ErrForm}, {degreeFan(1), -1, 0, api.ErrForm}, {degreeFan(1), 361, 0, api.ErrForm}, {degreeFan(1), math.MaxInt, 0, api.ErrForm}, {degreeFan(1), math.MinInt, 0, api.ErrForm},
	} {
		if n, e := rivet.Pleat(c.f, c.degrees); n != c.want || e != c.e {
			t.Error(i, n, e)
		}
	}
}

// P5.9: Balance and Holds have the errors of Closed first.
func TestClosed(t *testing.T) {
	good, wrong := stick(to(2, 3), to(4, 7), 9), stick(at(0), at(1), 0)
	for i, c := range []struct {
		l             []api.RivetStick
		weight, thick api.Span
		e             api.Errno
	}{
		{nil, at(0), at(0), api.OK}, {[]api.RivetStick{good}, to(2, 3), to(4, 7), api.OK}, {[]api.RivetStick{good, good}, to(4, 6), to(8, 14), api.OK}, {[]api.RivetStick{good, stick(to(100, 120), at(100), 0), good}, to(104, 126), to(108, 114), api.OK},
		{[]api.RivetStick{stick(at(1), at(1), 0)}, at(1), at(1), api.OK}, {[]api.RivetStick{stick(to(1, 10000), to(1, 100), 5000)}, to(1, 10000), to(1, 100), api.OK},
		{slices.Repeat([]api.RivetStick{stick(at(10000), at(100), 5000)}, 12), at(120000), at(1200), api.OK}, {slices.Repeat([]api.RivetStick{good}, 13), api.Span{}, api.Span{}, api.ErrLong}, {slices.Repeat([]api.RivetStick{wrong}, 13), api.Span{}, api.Span{}, api.ErrLong},
		{[]api.RivetStick{wrong}, api.Span{}, api.Span{}, api.ErrArg}, {[]api.RivetStick{good, good, wrong}, api.Span{}, api.Span{}, api.ErrArg}, {[]api.RivetStick{{}}, api.Span{}, api.Span{}, api.ErrArg}, {[]api.RivetStick{stick(to(0, 3), at(1), 0)}, api.Span{}, api.Span{}, api.ErrArg}, {[]api.RivetStick{stick(to(4, 3), at(1), 0)}, api.Span{}, api.Span{}, api.ErrArg}, {[]api.RivetStick{stick(to(3, 10001), at(1), 0)}, api.Span{}, api.Span{}, api.ErrArg}, {[]api.RivetStick{stick(at(-1), at(1), 0)}, api.Span{}, api.Span{}, api.ErrArg},
		{[]api.RivetStick{stick(at(1), to(0, 3), 0)}, api.Span{}, api.Span{}, api.ErrArg}, {[]api.RivetStick{stick(at(1), to(4, 3), 0)}, api.Span{}, api.Span{}, api.ErrArg}, {[]api.RivetStick{stick(at(1), to(3, 101), 0)}, api.Span{}, api.Span{}, api.ErrArg}, {[]api.RivetStick{stick(at(1), at(0), 0)}, api.Span{}, api.Span{}, api.ErrArg},
		{[]api.RivetStick{stick(at(1), at(1), -1)}, api.Span{}, api.Span{}, api.ErrArg}, {[]api.RivetStick{stick(at(1), at(1), 5001)}, api.Span{}, api.Span{}, api.ErrArg}, {[]api.RivetStick{stick(at(math.MaxInt), at(math.MaxInt), math.MinInt)}, api.Span{}, api.Span{}, api.ErrArg},
	} {
		if weight, thick, e := rivet.Closed(c.l); weight != c.weight || thick != c.thick || e != c.e {
			t.Error(i, weight, thick, e)
		}
		if c.e == api.OK {
			continue
		}
		least, most, e := rivet.Balance(c.l)
		surely, possibly, f := rivet.Holds(c.l, to(3, 2))
		if least != (api.Ratio{}) || most != (api.Ratio{}) || e != c.e || surely || possibly || f != c.e {
			t.Error(i, least, most, e, surely, possibly, f)
		}
	}
}

// P5.10
func TestBalance(t *testing.T) {
	for i, c := range []struct {
		l           []api.RivetStick
		least, most api.Ratio
		e           api.Errno
	}{
		{[]api.RivetStick{weighed(to(100, 120), 50), weighed(to(30, 40), 200)}, ratio(80, 1), ratio(650, 7), api.OK}, {[]api.RivetStick{weighed(to(30, 40), 200), weighed(to(100, 120), 50)}, ratio(80, 1), ratio(650, 7), api.OK}, // example 6
		{nil, api.Ratio{}, api.Ratio{}, api.ErrNone}, {[]api.RivetStick{weighed(to(1, 9), 7)}, ratio(7, 1), ratio(7, 1), api.OK}, {[]api.RivetStick{weighed(to(3, 9), 0)}, ratio(0, 1), ratio(0, 1), api.OK}, {[]api.RivetStick{weighed(at(6), 0), weighed(to(2, 9), 0)}, ratio(0, 1), ratio(0, 1), api.OK},
		{[]api.RivetStick{weighed(at(6), 10), weighed(at(9), 15)}, ratio(13, 1), ratio(13, 1), api.OK}, {[]api.RivetStick{weighed(at(1), 0), weighed(at(1), 1)}, ratio(1, 2), ratio(1, 2), api.OK}, {[]api.RivetStick{weighed(at(4), 0), weighed(at(2), 1)}, ratio(1, 3), ratio(1, 3), api.OK}, {[]api.RivetStick{weighed(at(6), 0), weighed(at(4), 1)}, ratio(2, 5), ratio(2, 5), api.OK}, // in lowest terms
		{[]api.RivetStick{weighed(to(1, 3), 0), weighed(to(1, 3), 10)}, ratio(5, 2), ratio(15, 2), api.OK}, {[]api.RivetStick{weighed(to(1, 3), 10), weighed(to(1, 3), 10)}, ratio(10, 1), ratio(10, 1), api.OK},
		{[]api.RivetStick{weighed(to(1, 100), 0), weighed(to(1, 100), 10), weighed(to(1, 100), 20)}, ratio(5, 17), ratio(335, 17), api.OK},
		{[]api.RivetStick{weighed(at(50), 0), weighed(to(1, 9), 5), weighed(to(1, 9), 10)}, ratio(15, 52), ratio(135, 68), api.OK}, {[]api.RivetStick{weighed(at(50), 10), weighed(to(1, 9), 5), weighed(to(1, 9), 0)}, ratio(545, 68), ratio(505, 52), api.OK}, // both on one side
		{[]api.RivetStick{weighed(to(1, 10000), 0), weighed(to(1, 10000), 5000)}, ratio(5000, 10001), ratio(50000000, 10001), api.OK}, {slices.Repeat([]api.RivetStick{weighed(to(1, 10000), 5000)}, 12), ratio(5000, 1), ratio(5000, 1), api.OK}, {append(slices.Repeat([]api.RivetStick{weighed(to(1, 10000), 4999)}, 11), weighed(to(1, 10000), 5000)), ratio(549895000, 110001), ratio(50054989, 10011), api.OK},
	} {
		if least, most, e := rivet.Balance(c.l); least != c.least || most != c.most || e != c.e {
			t.Error(i, least, most, e)
		}
	}
}

// P5.11
func TestHolds(t *testing.T) {
	two := []api.RivetStick{thick(to(3, 5)), thick(to(4, 9))} // 7 to 14
	for i, c := range []struct {
		l                []api.RivetStick
		rivet            api.Span
		surely, possibly bool
		e                api.Errno
	}{
		{two, to(14, 20), true, true, api.OK}, {two, to(13, 20), false, true, api.OK}, {two, to(0, 7), false, true, api.OK}, {two, to(0, 6), false, false, api.OK}, {two, at(14), true, true, api.OK}, {two, at(13), false, true, api.OK}, {two, at(7), false, true, api.OK}, {two, at(6), false, false, api.OK}, {two, to(0, 5000), false, true, api.OK}, {two, at(0), false, false, api.OK}, {two, at(5000), true, true, api.OK},
		{nil, at(0), true, true, api.OK}, {nil, to(0, 5000), true, true, api.OK}, {slices.Repeat([]api.RivetStick{thick(at(100))}, 12), at(1200), true, true, api.OK}, {slices.Repeat([]api.RivetStick{thick(at(100))}, 12), at(1199), false, false, api.OK},
		{two, to(8, 7), false, false, api.ErrForm}, {two, to(-1, 20), false, false, api.ErrForm}, {two, to(14, 5001), false, false, api.ErrForm}, {two, at(5001), false, false, api.ErrForm}, {two, at(-1), false, false, api.ErrForm}, {nil, to(8, 7), false, false, api.ErrForm}, {nil, to(math.MinInt, math.MaxInt), false, false, api.ErrForm},
	} {
		if surely, possibly, e := rivet.Holds(c.l, c.rivet); surely != c.surely || possibly != c.possibly || e != c.e {
			t.Error(i, surely, possibly, e)
		}
	}
}
