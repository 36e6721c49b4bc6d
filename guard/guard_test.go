package guard_test

import (
	"math"
	"slices"
	"testing"

	"panache/api"
	"panache/guard"
)

// errorsOf returns the errors of all functions of a stock.
func errorsOf(s api.GuardStock, g api.GuardGauge) []api.Errno {
	_, a := guard.Pairs(s, g)
	_, b := guard.Possible(s, g)
	_, _, c := guard.Cover(s, g)
	_, _, d := guard.Spare(s, g)
	_, e := guard.Twins(s, g)
	_, _, f := guard.Cut(s, g)
	_, _, _, h := guard.Look(s, g)
	_, _, i := guard.Balance(s, g)
	return []api.Errno{guard.Check(s, g), a, b, c, d, e, f, h, i}
}

// P6.1: all functions of a stock have its errors first.
func TestCheck(t *testing.T) {
	fine := exampleGauge
	good := one(100, 1, 2)
	eight, nine := slices.Repeat([]api.Guard{good}, 8), slices.Repeat([]api.Guard{good}, 9)
	worst := slices.Repeat([]api.Guard{one(0)}, 9)
	for i, c := range []struct {
		s api.GuardStock
		g api.GuardGauge
		e api.Errno
	}{
		{example(), fine, api.OK}, {stock(nil, nil), fine, api.OK}, {stock(nil, nil), api.GuardGauge{}, api.OK}, {stock(eight, eight), fine, api.OK}, {stock(eight, nil), fine, api.OK}, {stock(nil, eight), fine, api.OK},
		{stock(nine, nil), fine, api.ErrLong}, {stock(nil, nine), fine, api.ErrLong}, {stock(nine, nine), fine, api.ErrLong}, {stock(nine, eight), fine, api.ErrLong},
		{stock([]api.Guard{one(1, 0)}, nil), fine, api.OK}, {stock([]api.Guard{one(1, 0, 0, 0, 0)}, []api.Guard{one(1, 0, 0, 0, 0)}), fine, api.OK},
		{stock([]api.Guard{one(1)}, nil), fine, api.ErrForm}, {stock(nil, []api.Guard{one(1)}), fine, api.ErrForm}, {stock(nil, []api.Guard{one(1, 0, 0, 0, 0, 0)}), fine, api.ErrForm}, {stock([]api.Guard{one(1, 0, 0, 0, 0, 0)}, nil), fine, api.ErrForm},
		{stock([]api.Guard{good, one(1, 1)}, nil), fine, api.ErrForm}, {stock(nil, []api.Guard{good, good, one(1, 1, 1, 1)}), fine, api.ErrForm}, {stock([]api.Guard{good}, []api.Guard{one(1, 1)}), fine, api.ErrForm}, {stock([]api.Guard{good, good}, []api.Guard{good, one(1, 1, 1, 1)}), fine, api.ErrForm}, {stock([]api.Guard{good}, []api.Guard{one(1)}), fine, api.ErrForm},
		{stock([]api.Guard{one(1, 0, 500)}, []api.Guard{one(10000, 500, 0)}), fine, api.OK}, {stock([]api.Guard{one(0, 0)}, nil), fine, api.ErrArg}, {stock([]api.Guard{one(10001, 0)}, nil), fine, api.ErrArg}, {stock(nil, []api.Guard{one(-1, 0)}), fine, api.ErrArg}, {stock(nil, []api.Guard{one(1, 0), one(0, 0)}), fine, api.ErrArg},
		{stock([]api.Guard{one(1, -1)}, nil), fine, api.ErrArg}, {stock([]api.Guard{one(1, 501)}, nil), fine, api.ErrArg}, {stock(nil, []api.Guard{one(1, 0, 0, 0, 501)}), fine, api.ErrArg}, {stock([]api.Guard{good}, []api.Guard{good, one(1, 3, -1)}), fine, api.ErrArg}, {stock([]api.Guard{one(math.MinInt, 0)}, []api.Guard{one(math.MaxInt, 0)}), fine, api.ErrArg}, {stock([]api.Guard{one(1, math.MinInt)}, []api.Guard{one(1, math.MaxInt)}), fine, api.ErrArg},
		{example(), gauge(0, 0, 0, 0), api.OK}, {example(), gauge(100, 100, 10000, 500), api.OK}, {example(), gauge(101, 0, 0, 0), api.ErrRange}, {example(), gauge(-1, 0, 0, 0), api.ErrRange}, {example(), gauge(0, 101, 0, 0), api.ErrRange}, {example(), gauge(0, -1, 0, 0), api.ErrRange},
		{example(), gauge(0, 0, 10001, 0), api.ErrRange}, {example(), gauge(0, 0, -1, 0), api.ErrRange}, {example(), gauge(0, 0, 0, 501), api.ErrRange}, {example(), gauge(0, 0, 0, -1), api.ErrRange}, {stock(nil, nil), gauge(0, 0, 0, -1), api.ErrRange}, {stock(nil, nil), gauge(101, 0, 0, 0), api.ErrRange}, {example(), gauge(math.MinInt, math.MaxInt, math.MinInt, math.MaxInt), api.ErrRange},
		// The error that is named first; Balance has its own one last.
		{stock(worst, nil), gauge(-1, 0, 0, 0), api.ErrLong}, {stock([]api.Guard{one(0)}, nil), gauge(-1, 0, 0, 0), api.ErrForm}, {stock([]api.Guard{one(0, 1), one(1)}, nil), fine, api.ErrForm}, {stock([]api.Guard{one(0, 1)}, []api.Guard{one(1, 1, 1)}), fine, api.ErrForm}, {stock(nil, []api.Guard{one(0, 1)}), gauge(-1, 0, 0, 0), api.ErrArg}, {stock([]api.Guard{good}, nil), gauge(0, 0, 0, 501), api.ErrRange},
	} {
		l := errorsOf(c.s, c.g)
		if l[0] != c.e {
			t.Error(i, l[0])
		}
		if c.e != api.OK && slices.ContainsFunc(l, func(e api.Errno) bool { return e != c.e }) {
			t.Error(i, l)
		}
	}
}

// P6.2
func TestAlike(t *testing.T) {
	x := example()
	for i, c := range []struct {
		a, b             api.Guard
		g                api.GuardGauge
		surely, possibly bool
	}{
		{x.Left[0], x.Right[0], exampleGauge, true, true}, {x.Left[0], x.Right[1], exampleGauge, true, true}, {x.Left[1], x.Right[0], exampleGauge, true, true}, {x.Left[1], x.Right[1], exampleGauge, true, true}, {x.Left[2], x.Right[2], exampleGauge, false, false}, {x.Left[0], x.Left[1], exampleGauge, false, true}, // example 1
		{one(100, 0), one(103, 0), gauge(1, 0, 5, 0), true, true}, {one(100, 0), one(104, 0), gauge(1, 0, 5, 0), false, true}, {one(104, 0), one(100, 0), gauge(1, 0, 5, 0), false, true}, {one(100, 0), one(107, 0), gauge(1, 0, 5, 0), false, true}, {one(107, 0), one(100, 0), gauge(1, 0, 5, 0), false, true}, {one(100, 0), one(108, 0), gauge(1, 0, 5, 0), false, false}, {one(108, 0), one(100, 0), gauge(1, 0, 5, 0), false, false}, {one(103, 0), one(100, 0), gauge(1, 0, 5, 0), true, true},
		{one(9, 20), one(9, 23), gauge(0, 1, 0, 5), true, true}, {one(9, 24), one(9, 20), gauge(0, 1, 0, 5), false, true}, {one(9, 20), one(9, 27), gauge(0, 1, 0, 5), false, true}, {one(9, 28), one(9, 20), gauge(0, 1, 0, 5), false, false},
		{one(9, 20, 20, 20, 20), one(9, 20, 20, 20, 23), gauge(0, 1, 0, 5), true, true}, {one(9, 20, 20, 20, 20), one(9, 20, 20, 20, 24), gauge(0, 1, 0, 5), false, true}, {one(9, 20, 20, 28, 20), one(9, 20, 20, 20, 20), gauge(0, 1, 0, 5), false, false}, {one(9, 23, 20, 23), one(9, 20, 23, 20), gauge(0, 1, 0, 5), true, true}, {one(9, 1, 5), one(9, 5, 1), gauge(0, 0, 0, 3), false, false}, // mark by mark
		{one(9, 7), one(9, 7), gauge(0, 0, 0, 0), true, true}, {one(9, 7), one(10, 7), gauge(0, 0, 0, 0), false, false}, {one(9, 7), one(9, 8), gauge(0, 0, 0, 0), false, false}, {one(9, 7), one(9, 7), gauge(1, 0, 1, 0), false, true}, {one(9, 7), one(9, 7), gauge(1, 0, 2, 0), true, true}, {one(9, 7), one(9, 7), gauge(0, 1, 0, 1), false, true}, {one(9, 7), one(9, 7), gauge(0, 1, 0, 2), true, true},
		{one(1, 0), one(3, 0), gauge(1, 0, 0, 0), false, true}, {one(1, 0), one(1, 0), gauge(100, 100, 199, 200), false, true}, {one(1, 0), one(1, 0), gauge(100, 100, 200, 199), false, true}, {one(1, 0), one(1, 0), gauge(100, 100, 200, 200), true, true}, // also below what can be gauged
		{one(1, 0), one(10000, 500), gauge(0, 0, 9999, 500), true, true}, {one(1, 0), one(10000, 500), gauge(0, 0, 9998, 500), false, false}, {one(1, 0), one(10000, 500), gauge(0, 0, 9999, 499), false, false}, {one(1, 0), one(10000, 0), gauge(100, 100, 9799, 500), false, true}, {one(1, 0), one(10000, 0), gauge(100, 100, 9798, 500), false, false},
	} {
		if surely, possibly, e := guard.Alike(c.a, c.b, c.g); surely != c.surely || possibly != c.possibly || e != api.OK {
			t.Error(i, surely, possibly, e)
		}
	}
}

// P6.2: the errors are those of a stock of these guards.
func TestAlikeErrors(t *testing.T) {
	good, wrong := one(9, 7), gauge(0, 0, 0, -1)
	for i, c := range []struct {
		a, b api.Guard
		g    api.GuardGauge
		e    api.Errno
	}{
		{one(9), one(9), exampleGauge, api.ErrForm}, {good, one(9), exampleGauge, api.ErrForm}, {one(9), good, exampleGauge, api.ErrForm}, {good, one(9, 7, 7), exampleGauge, api.ErrForm}, {one(9, 1, 2, 3, 4, 5), one(9, 1, 2, 3, 4, 5), exampleGauge, api.ErrForm}, {one(9, 1, 2, 3, 4), one(9, 1, 2, 3, 4), exampleGauge, api.OK},
		{one(0, 7), good, exampleGauge, api.ErrArg}, {good, one(0, 7), exampleGauge, api.ErrArg}, {one(10001, 7), good, exampleGauge, api.ErrArg}, {good, one(9, 501), exampleGauge, api.ErrArg}, {one(9, -1), good, exampleGauge, api.ErrArg}, {one(math.MinInt, 0), one(math.MaxInt, 0), exampleGauge, api.ErrArg}, {one(9, 1, 2, 3, 501), one(9, 1, 2, 3, 4), exampleGauge, api.ErrArg},
		{good, good, wrong, api.ErrRange}, {good, good, gauge(101, 0, 0, 0), api.ErrRange}, {good, good, gauge(0, -1, 0, 0), api.ErrRange}, {good, good, gauge(0, 0, 10001, 0), api.ErrRange}, {good, good, gauge(0, 0, 0, 501), api.ErrRange},
		{one(0, 7), one(9), wrong, api.ErrForm}, {one(0, 501), one(9, 1, 2), exampleGauge, api.ErrForm}, {good, one(9, 501), wrong, api.ErrArg}, // the error that is named first
	} {
		if surely, possibly, e := guard.Alike(c.a, c.b, c.g); e != c.e || e != api.OK && (surely || possibly) {
			t.Error(i, surely, possibly, e)
		}
	}
}

// P6.3 and P6.4
func TestPairs(t *testing.T) {
	alike := straight(5, 5, 5, 5, 5, 5, 5, 5)
	for i, c := range []struct {
		s        api.GuardStock
		g        api.GuardGauge
		want     []api.GuardPair
		possible int
	}{
		{example(), exampleGauge, pairs(0, 0, 1, 1), 2}, // example 2
		{stock(nil, nil), exampleGauge, nil, 0}, {stock(straight(5), nil), exact(9), nil, 0}, {stock(nil, straight(5)), exact(9), nil, 0}, {stock(straight(5), straight(5)), exact(0), pairs(0, 0), 1}, {stock(straight(5), straight(6)), exact(0), nil, 0}, {stock(straight(5), straight(6)), gauge(1, 0, 0, 0), nil, 1}, {stock(straight(5), straight(6)), gauge(1, 0, 3, 0), pairs(0, 0), 1},
		{stock(alike, alike), exact(0), pairs(0, 0, 1, 1, 2, 2, 3, 3, 4, 4, 5, 5, 6, 6, 7, 7), 8}, {stock(alike[:2], alike), exact(0), pairs(0, 0, 1, 1), 2}, {stock(alike, alike[:3]), exact(0), pairs(0, 0, 1, 1, 2, 2), 3},
		{stock(straight(10, 11), straight(11, 12)), exact(1), pairs(0, 0, 1, 1), 2}, {stock(straight(11, 10), straight(11, 12)), exact(1), pairs(0, 1, 1, 0), 2}, {stock(straight(11, 10), straight(12, 11)), exact(1), pairs(0, 0, 1, 1), 2}, {stock(straight(11, 10, 13), straight(11, 12)), exact(1), pairs(0, 0, 2, 1), 2}, // not 0 1, 1 0
		{stock(straight(20, 10, 10), straight(10, 10)), exact(1), pairs(1, 0, 2, 1), 2}, {stock(straight(10, 20, 30), straight(30, 20, 10)), exact(1), pairs(0, 2, 1, 1, 2, 0), 3}, {stock(straight(10, 11, 12, 13), straight(11, 12, 13, 14)), exact(1), pairs(0, 0, 1, 1, 2, 2, 3, 3), 4}, {stock(straight(13, 12, 11, 10), straight(11, 12, 13, 14)), exact(1), pairs(0, 3, 1, 2, 2, 1, 3, 0), 4}, // a chain
		{stock([]api.Guard{one(9, 0, 0), one(9, 0, 9)}, []api.Guard{one(9, 0, 9), one(9, 0, 1)}), gauge(0, 1, 0, 3), pairs(0, 1, 1, 0), 2}, {stock([]api.Guard{one(9, 0, 0), one(9, 0, 9)}, []api.Guard{one(9, 0, 9), one(9, 0, 2)}), gauge(0, 1, 0, 3), pairs(1, 0), 2},
		{stock(straight(10, 10), straight(12, 13)), gauge(1, 0, 1, 0), nil, 2}, {stock(straight(10, 10), straight(12, 14)), gauge(1, 0, 1, 0), nil, 1}, {stock(straight(10), straight(12, 8)), gauge(1, 0, 1, 0), nil, 1},
		{stock(straight(1, 10000), straight(10000, 1)), exact(9998), pairs(0, 1, 1, 0), 2}, {stock(straight(1, 10000), straight(10000, 1)), exact(9999), pairs(0, 0, 1, 1), 2},
	} {
		if l, e := guard.Pairs(c.s, c.g); !slices.Equal(l, c.want) || e != api.OK {
			t.Error(i, l, e)
		}
		if n, e := guard.Possible(c.s, c.g); n != c.possible || e != api.OK {
			t.Error(i, n, e)
		}
	}
}

// P6.5 and P6.6
func TestCoverAndSpare(t *testing.T) {
	alike := straight(5, 5, 5, 5, 5, 5, 5, 5)
	type list = []int
	for i, c := range []struct {
		s                                  api.GuardStock
		g                                  api.GuardGauge
		left, right, spareLeft, spareRight list
	}{
		{example(), exampleGauge, nil, list{0, 1}, list{2}, list{2}}, // example 2
		{stock(nil, nil), exampleGauge, nil, nil, nil, nil}, {stock(straight(5, 5), nil), exact(9), nil, nil, list{0, 1}, nil}, {stock(nil, straight(5, 5)), exact(9), nil, nil, nil, list{0, 1}}, {stock(straight(5), straight(9)), exact(1), nil, nil, list{0}, list{0}}, {stock(straight(5), straight(5)), exact(0), nil, list{0}, nil, nil},
		{stock(alike, alike), exact(0), nil, list{0, 1, 2, 3, 4, 5, 6, 7}, nil, nil}, {stock(alike, alike[:7]), exact(0), nil, list{0, 1, 2, 3, 4, 5, 6}, list{0, 1, 2, 3, 4, 5, 6, 7}, nil}, {stock(alike[:7], alike), exact(0), list{0, 1, 2, 3, 4, 5, 6}, nil, nil, list{0, 1, 2, 3, 4, 5, 6, 7}},
		{stock(straight(5), straight(5, 5)), exact(0), list{0}, nil, nil, list{0, 1}}, {stock(straight(5, 5), straight(5)), exact(0), nil, list{0}, list{0, 1}, nil}, {stock(straight(9, 5), straight(5, 5)), exact(0), list{1}, nil, list{0}, list{0, 1}},
		{stock(straight(5, 8, 5), straight(8, 5, 8)), exact(0), list{1}, list{1}, list{0, 2}, list{0, 2}}, {stock(straight(8, 5, 5, 20), straight(8, 5, 8, 20)), exact(0), list{0}, list{1, 3}, list{1, 2}, list{0, 2}}, // a star on either side
		{stock(straight(10, 12, 20), straight(11, 13, 20, 20)), exact(1), list{0, 1, 2}, nil, nil, list{2, 3}}, {stock(straight(20, 10, 12), straight(11, 13, 20, 20)), exact(1), list{0}, list{0, 1}, nil, list{2, 3}}, {stock(straight(10, 12), straight(11)), exact(1), nil, list{0}, list{0, 1}, nil},
		{stock(straight(10, 12, 14), straight(11, 13)), exact(1), nil, list{0, 1}, list{0, 1, 2}, nil}, {stock(straight(11, 13), straight(10, 12, 14)), exact(1), list{0, 1}, nil, nil, list{0, 1, 2}}, // another guard can stand in
		{stock(straight(10, 10, 13, 12), straight(11, 11, 12, 15)), exact(1), nil, list{0, 1, 2}, list{0, 1, 2, 3}, list{3}}, {stock(straight(11, 30), straight(10, 12, 30)), exact(1), list{0}, list{2}, nil, list{0, 1}}, {stock(straight(30, 11), straight(10, 12, 30)), exact(1), list{0, 1}, nil, nil, list{0, 1}},
	} {
		left, right, e := guard.Cover(c.s, c.g)
		if !slices.Equal(left, c.left) || !slices.Equal(right, c.right) || e != api.OK {
			t.Error(i, left, right, e)
		}
		left, right, e = guard.Spare(c.s, c.g)
		if !slices.Equal(left, c.spareLeft) || !slices.Equal(right, c.spareRight) || e != api.OK {
			t.Error(i, left, right, e)
		}
	}
}

// P6.7
func TestTwins(t *testing.T) {
	six := gauge(1, 0, 6, 4)
	alike := straight(5, 5, 5, 5, 5, 5, 5, 5)
	for i, c := range []struct {
		s    api.GuardStock
		g    api.GuardGauge
		want []api.GuardPair
		e    api.Errno
	}{
		{example(), exampleGauge, nil, api.ErrNone}, {example(), six, pairs(0, 0, 1, 1), api.OK}, // example 3
		{stock(nil, nil), exampleGauge, nil, api.ErrNone}, {stock(straight(5), straight(5)), exact(0), nil, api.ErrNone}, {stock(straight(5), straight(5, 5)), exact(0), nil, api.ErrNone}, {stock(straight(5, 5, 5), straight(5)), exact(0), nil, api.ErrNone}, {stock(straight(5, 5), straight(5, 5)), exact(0), pairs(0, 0, 1, 1), api.OK}, {stock(alike, alike), exact(0), pairs(0, 0, 1, 1), api.OK}, {stock(alike, nil), exact(0), nil, api.ErrNone},
		{stock(straight(9, 5, 9, 5), straight(5, 9, 5, 9)), exact(0), pairs(0, 1, 2, 3), api.OK}, {stock(straight(5, 9, 5, 9), straight(7, 9, 9, 5)), exact(0), pairs(1, 1, 3, 2), api.OK}, {stock(straight(5, 9, 5, 9), straight(7, 9, 9, 5)), exact(2), pairs(0, 0, 2, 3), api.OK}, {stock(straight(5, 7, 9), straight(9, 7)), exact(2), pairs(1, 0, 2, 1), api.OK},
		{stock(straight(10, 12), straight(11, 11)), exact(1), nil, api.ErrNone}, {stock(straight(11, 11), straight(10, 12)), exact(1), nil, api.ErrNone}, {stock(straight(10, 11), straight(10, 11)), exact(1), pairs(0, 0, 1, 1), api.OK}, {stock(straight(10, 12, 11), straight(11, 11)), exact(1), pairs(0, 0, 2, 1), api.OK}, {stock(straight(11, 11), straight(10, 12, 11)), exact(1), pairs(0, 0, 1, 2), api.OK}, // both left ones, and both right ones, too
		{stock(straight(10, 10, 12, 12), straight(10, 12, 12, 10)), exact(0), pairs(0, 0, 1, 3), api.OK}, {stock(straight(10, 20, 12), straight(11, 21, 13, 12)), exact(2), pairs(0, 0, 2, 3), api.OK}, {stock(straight(10, 20, 12), straight(11, 21, 13, 12)), exact(3), pairs(0, 0, 2, 2), api.OK}, // the smallest list
		{stock([]api.Guard{one(9, 0), one(9, 4)}, []api.Guard{one(9, 2), one(9, 2)}), gauge(0, 1, 0, 5), nil, api.ErrNone}, {stock([]api.Guard{one(9, 0), one(9, 4)}, []api.Guard{one(9, 2), one(9, 2)}), gauge(0, 1, 0, 6), pairs(0, 0, 1, 1), api.OK}, {stock([]api.Guard{one(9, 2), one(9, 2)}, []api.Guard{one(9, 0), one(9, 4)}), gauge(0, 1, 0, 5), nil, api.ErrNone},
	} {
		if l, e := guard.Twins(c.s, c.g); !slices.Equal(l, c.want) || e != c.e {
			t.Error(i, l, e)
		}
	}
}

// P6.8
func TestCut(t *testing.T) {
	eight := straight(1, 2, 3, 4, 5, 6, 7, 8)
	for i, c := range []struct {
		s           api.GuardStock
		g           api.GuardGauge
		left, pairs int
		e           api.Errno
	}{
		{example(), exampleGauge, 2, 3, api.OK}, // example 4
		{stock(nil, nil), exampleGauge, 0, 0, api.ErrNone}, {stock(nil, straight(5)), exact(9), 0, 0, api.ErrNone}, {stock(straight(5), nil), exact(0), 0, 1, api.OK}, {stock(straight(5), straight(5)), exact(0), 0, 0, api.ErrNone}, {stock(straight(5), straight(6)), exact(0), 0, 1, api.OK},
		{stock(straight(5), straight(9)), gauge(1, 0, 1, 0), 0, 0, api.ErrNone}, {stock(straight(5), straight(9)), gauge(1, 0, 2, 0), 0, 1, api.OK}, {stock(straight(5), straight(9)), gauge(0, 1, 0, 1), 0, 0, api.ErrNone}, {stock(straight(5), straight(9)), gauge(0, 1, 0, 2), 0, 1, api.OK}, // its twin is gauged wrong, too
		{stock(straight(5, 5), straight(5)), exact(0), 0, 2, api.OK}, {stock(straight(5, 6), straight(6)), exact(1), 0, 2, api.OK}, {stock(straight(9, 5, 5), straight(9, 5)), exact(0), 1, 3, api.OK}, {stock(straight(9, 5, 8, 5), straight(9, 5)), exact(1), 0, 3, api.OK}, {stock(straight(5, 9, 20), straight(5, 9)), exact(0), 2, 3, api.OK}, {stock(straight(20, 5, 30), straight(5, 9)), exact(0), 0, 2, api.OK}, // the first one
		{stock(straight(1, 2), straight(2)), exact(1), 0, 2, api.OK}, {stock(straight(2, 1), straight(1)), exact(1), 0, 2, api.OK}, {stock(straight(1, 2, 3), straight(2, 2, 9)), exact(1), 0, 3, api.OK},
		{stock(eight, eight), exact(0), 0, 0, api.ErrNone}, {stock(eight, straight(8, 7, 6, 5, 3, 2, 1, 20)), exact(0), 3, 8, api.OK}, {stock(eight, straight(9, 9, 9, 9, 9, 9, 9, 9)), exact(0), 0, 1, api.OK}, {stock(eight[:2], straight(9, 9, 9, 9, 9, 9, 9, 9)), exact(0), 0, 1, api.OK}, // there can be a ninth right one
	} {
		if left, pairs, e := guard.Cut(c.s, c.g); left != c.left || pairs != c.pairs || e != c.e {
			t.Error(i, left, pairs, e)
		}
	}
}

// P6.9
func TestLook(t *testing.T) {
	for i, c := range []struct {
		s            api.GuardStock
		g            api.GuardGauge
		number, gain int
		e            api.Errno
	}{
		{example(), exampleGauge, 0, 0, api.ErrNone}, // example 4
		{stock(nil, nil), exampleGauge, 0, 0, api.ErrNone}, {stock(straight(5), nil), gauge(1, 1, 9, 9), 0, 0, api.ErrNone}, {stock(nil, straight(5)), gauge(1, 1, 9, 9), 0, 0, api.ErrNone}, {stock(straight(5), straight(5)), exact(0), 0, 0, api.ErrNone}, {stock(straight(5), straight(6)), exact(0), 0, 0, api.ErrNone},
		{stock(straight(5), straight(8)), gauge(1, 0, 5, 0), 0, 0, api.ErrNone}, {stock(straight(5), straight(9)), gauge(1, 0, 5, 0), 0, 1, api.OK}, {stock(straight(5), straight(10)), gauge(1, 0, 5, 0), 0, 0, api.ErrNone}, {stock(straight(9), straight(5)), gauge(2, 0, 6, 0), 0, 1, api.OK}, {stock(straight(9), straight(4)), gauge(2, 0, 6, 0), 0, 0, api.ErrNone},
		{stock([]api.Guard{one(9, 3, 5)}, []api.Guard{one(9, 3, 9)}), gauge(0, 1, 0, 5), 0, 1, api.OK}, {stock([]api.Guard{one(9, 3, 5)}, []api.Guard{one(9, 3, 10)}), gauge(0, 1, 0, 5), 0, 0, api.ErrNone}, {stock([]api.Guard{one(9, 3, 5)}, []api.Guard{one(9, 3, 8)}), gauge(0, 1, 0, 5), 0, 0, api.ErrNone},
		{stock([]api.Guard{one(5, 5)}, []api.Guard{one(9, 9)}), gauge(1, 1, 5, 5), 0, 1, api.OK}, {stock([]api.Guard{one(5, 5)}, []api.Guard{one(9, 9)}), gauge(1, 1, 5, 4), 0, 0, api.ErrNone}, {stock([]api.Guard{one(5, 5)}, []api.Guard{one(9, 9)}), gauge(1, 1, 4, 5), 0, 0, api.ErrNone}, // weight and curve
		{stock(straight(30, 5), straight(9)), gauge(1, 0, 5, 0), 1, 1, api.OK}, {stock(straight(5, 9), straight(9)), gauge(1, 0, 5, 0), 0, 0, api.ErrNone}, {stock(straight(5, 5), straight(9, 9)), gauge(1, 0, 5, 0), 0, 1, api.OK}, {stock(straight(20, 40, 60), straight(60, 44, 24)), gauge(1, 0, 5, 0), 0, 1, api.OK}, {stock(straight(60, 40, 20), straight(60, 44, 24)), gauge(1, 0, 5, 0), 1, 1, api.OK}, // one more at most, by the first one
		{stock(straight(5, 8), straight(11, 12)), gauge(1, 0, 5, 0), 0, 0, api.ErrNone}, {stock(straight(6, 8), straight(10, 11)), gauge(1, 0, 5, 0), 0, 1, api.OK}, {stock(straight(8, 6), straight(10, 11)), gauge(1, 0, 5, 0), 1, 1, api.OK}, // others change partners
	} {
		right, number, gain, e := guard.Look(c.s, c.g)
		if right || number != c.number || gain != c.gain || e != c.e {
			t.Error(i, right, number, gain, e)
		}
	}
}

// P6.10
func TestBalance(t *testing.T) {
	eight := straight(1, 2, 3, 4, 5, 6, 7, 8)
	for i, c := range []struct {
		s     api.GuardStock
		want  []api.GuardPair
		worst int
		e     api.Errno
	}{
		{example(), pairs(0, 1, 1, 0, 2, 2), 2, api.OK}, // example 5
		{stock(nil, nil), nil, 0, api.OK}, {stock(straight(5), straight(5)), pairs(0, 0), 0, api.OK}, {stock(straight(1), straight(10000)), pairs(0, 0), 9999, api.OK}, {stock(straight(10000), straight(1)), pairs(0, 0), 9999, api.OK}, {stock([]api.Guard{one(5, 0)}, []api.Guard{one(7, 500)}), pairs(0, 0), 2, api.OK},
		{stock(straight(5), nil), nil, 0, api.ErrState}, {stock(nil, straight(5)), nil, 0, api.ErrState}, {stock(straight(5), straight(5, 5)), nil, 0, api.ErrState}, {stock(eight, eight[1:]), nil, 0, api.ErrState}, {stock(straight(5, 5), straight(5)), nil, 0, api.ErrState},
		{stock(straight(10, 20), straight(20, 10)), pairs(0, 1, 1, 0), 0, api.OK}, {stock(straight(10, 20), straight(15, 15)), pairs(0, 0, 1, 1), 5, api.OK}, {stock(straight(10, 12), straight(14, 11)), pairs(0, 1, 1, 0), 2, api.OK}, {stock(straight(10, 12), straight(15, 13)), pairs(0, 1, 1, 0), 3, api.OK}, {stock(straight(12, 10), straight(15, 13)), pairs(0, 0, 1, 1), 3, api.OK},
		{stock(straight(10, 10, 50), straight(40, 11, 10)), pairs(0, 1, 1, 2, 2, 0), 10, api.OK}, {stock(straight(1, 2, 3, 90), straight(3, 2, 1, 80)), pairs(0, 0, 1, 1, 2, 2, 3, 3), 10, api.OK}, {stock(straight(1, 2, 3), straight(3, 2, 1)), pairs(0, 2, 1, 1, 2, 0), 0, api.OK}, {stock(straight(1, 9, 30), straight(2, 10, 60)), pairs(0, 0, 1, 1, 2, 2), 30, api.OK}, {stock(straight(9, 1, 30), straight(2, 10, 60)), pairs(0, 0, 1, 1, 2, 2), 30, api.OK}, // the worst one leaves the others their way
		{stock(eight, slices.Concat(eight[4:], eight[:4])), pairs(0, 4, 1, 5, 2, 6, 3, 7, 4, 0, 5, 1, 6, 2, 7, 3), 0, api.OK}, {stock(eight, straight(9, 9, 9, 9, 9, 9, 9, 9)), pairs(0, 0, 1, 1, 2, 2, 3, 3, 4, 4, 5, 5, 6, 6, 7, 7), 8, api.OK}, {stock(eight, straight(9, 8, 7, 6, 5, 4, 3, 2)), pairs(0, 7, 1, 6, 2, 5, 3, 4, 4, 3, 5, 2, 6, 1, 7, 0), 1, api.OK},
	} {
		for k, g := range []api.GuardGauge{{}, exampleGauge, gauge(100, 100, 10000, 500)} {
			if l, worst, e := guard.Balance(c.s, g); !slices.Equal(l, c.want) || worst != c.worst || e != c.e {
				t.Error(i, k, l, worst, e)
			}
		}
	}
}
