package twin_test

import (
	"math"
	"slices"
	"testing"

	"panache/api"
	"panache/twin"
)

// errorsOf returns the errors of all functions with a gauge and fans. Copy is asked only if there are two.
func errorsOf(g api.TwinGauge, l []api.TwinFan, family []int) []api.Errno {
	_, a := twin.Pattern(g, l)
	_, _, b := twin.Twins(g, l)
	_, c := twin.Most(g, l)
	_, d := twin.Wrong(g, l)
	_, _, e := twin.Families(g, l)
	_, _, f := twin.Originals(g, l)
	_, h := twin.Truth(g, l, family)
	_, i := twin.Blame(g, l, family)
	_, _, j := twin.Look(g, l)
	all := []api.Errno{twin.Check(g, l), a, b, c, d, e, f, h, i, j}
	if len(l) == 2 {
		_, _, k := twin.Copy(g, l[0], l[1])
		all = append(all, k)
	}
	return all
}

// P9.1: all functions have the errors of Check first.
func TestCheck(t *testing.T) {
	one, none := gauge(0, 0, at(0)), api.TwinGauge{}
	four, five := gauges(one, one, one, one), gauges(one, one, one, one, one)
	uneven := func(off, miss, copied int) api.TwinGauge {
		return api.TwinGauge{Off: make([]int, off), Make: make([]int, miss), Copy: make([]api.Span, copied)}
	}
	bad, six := fan(-1), single(0, 0, 0, 0, 0, 0)
	for i, c := range []struct {
		g api.TwinGauge
		l []api.TwinFan
		e api.Errno
	}{
		{exampleGauge(), example(), api.OK}, {exampleGauge(), exampleWrong(), api.OK}, {one, nil, api.OK}, {four, nil, api.OK}, {four, fans(fan(0, 0, 0, 0)), api.OK}, {one, six[:5], api.OK},
		{none, nil, api.ErrForm}, {none, fans(fan(), fan()), api.ErrForm}, {five, nil, api.ErrForm}, {five, fans(fan(0, 0, 0, 0, 0)), api.ErrForm}, {uneven(1, 1, 1), nil, api.OK},
		{uneven(0, 1, 1), nil, api.ErrForm}, {uneven(1, 0, 1), nil, api.ErrForm}, {uneven(1, 1, 0), nil, api.ErrForm}, {uneven(2, 1, 1), nil, api.ErrForm}, {uneven(1, 2, 1), nil, api.ErrForm}, {uneven(1, 1, 2), nil, api.ErrForm}, {uneven(1, 2, 2), nil, api.ErrForm}, {uneven(4, 4, 5), nil, api.ErrForm}, {uneven(4, 5, 4), nil, api.ErrForm}, {uneven(5, 4, 4), nil, api.ErrForm},
		{gauge(5, 100, to(-100, 100)), nil, api.OK}, {gauge(6, 0, at(0)), nil, api.ErrArg}, {gauge(-1, 0, at(0)), nil, api.ErrArg}, {gauge(0, 101, at(0)), nil, api.ErrArg}, {gauge(0, -1, at(0)), nil, api.ErrArg}, {gauge(0, 0, to(-101, 0)), nil, api.ErrArg}, {gauge(0, 0, to(0, 101)), nil, api.ErrArg}, {gauge(0, 0, to(1, 0)), nil, api.ErrArg}, {gauge(math.MaxInt, 0, at(0)), nil, api.ErrArg}, {gauge(0, math.MinInt, at(0)), nil, api.ErrArg}, {gauge(0, 0, to(math.MinInt, math.MaxInt)), nil, api.ErrArg},
		{gauges(one, one, gauge(6, 0, at(0))), nil, api.ErrArg}, {gauges(one, gauge(0, 101, at(0)), one), nil, api.ErrArg}, {gauges(one, one, one, gauge(0, 0, at(101))), nil, api.ErrArg}, {gauges(one, gauge(0, 0, to(3, 2))), nil, api.ErrArg},
		{one, six, api.ErrLong}, {one, append(slices.Clone(six), bad), api.ErrLong},
		{one, single(0, 10000), api.OK}, {one, single(10001), api.ErrRange}, {one, fans(bad), api.ErrRange}, {one, single(3, -1), api.ErrRange}, {one, single(10001, 3), api.ErrRange}, {one, single(math.MinInt, math.MaxInt), api.ErrRange}, {one, fans(fan()), api.ErrRange}, {one, fans(fan(1, 2)), api.ErrRange}, {one, fans(fan(1), fan()), api.ErrRange}, {one, fans(fan(1, 2), fan(1)), api.ErrRange}, {four, fans(fan(1, 2, 3)), api.ErrRange}, {four, fans(fan(1, 2, 3, 10001)), api.ErrRange}, {four, fans(fan(1, 2, 3, 4), fan(1, 2, 3, 4, 5)), api.ErrRange}, {one, single(1, 1, 1, 1, 10001), api.ErrRange},
		{api.TwinGauge{Off: numbers(6), Make: numbers(0, 0)}, six, api.ErrForm}, {gauge(6, 0, at(0)), append(slices.Clone(six), bad), api.ErrArg}, {gauge(0, 0, to(1, 0)), fans(bad, bad), api.ErrArg}, // the error that is named first
	} {
		l := errorsOf(c.g, c.l, numbers(7))
		if l[0] != c.e {
			t.Error(i, l[0])
		}
		if c.e != api.OK && slices.ContainsFunc(l, func(e api.Errno) bool { return e != c.e }) {
			t.Error(i, l)
		}
	}
}

// P9.1: what comes after the errors of Check.
func TestErrorsAfterCheck(t *testing.T) {
	one, two := gauge(0, 0, at(0)), gauge(1, 3, to(-2, -1))
	for i, c := range []struct {
		g      api.TwinGauge
		l      []api.TwinFan
		family []int
		want   []api.Errno
	}{
		// Check, Pattern, Twins, Most, Wrong, Families, Originals, Truth, Blame, Look, Copy
		{exampleGauge(), example(), numbers(-1, 0, 0), []api.Errno{0, 0, 0, 0, api.ErrTwice, 0, 0, 0, 0, api.ErrNone}},
		{exampleGauge(), exampleWrong(), numbers(-1, 0, 0), []api.Errno{0, api.ErrState, 0, 0, 0, 0, 0, api.ErrState, 0, api.ErrNone}},
		{exampleGauge(), exampleWrong(), numbers(-1, 0), []api.Errno{0, api.ErrState, 0, 0, 0, 0, 0, api.ErrTwice, api.ErrTwice, api.ErrNone}},
		{one, nil, nil, []api.Errno{0, api.ErrNone, 0, 0, api.ErrTwice, 0, 0, 0, 0, api.ErrNone}},
		{one, nil, numbers(-1), []api.Errno{0, api.ErrNone, 0, 0, api.ErrTwice, 0, 0, api.ErrTwice, api.ErrTwice, api.ErrNone}},
		{one, single(7), numbers(-1), []api.Errno{0, 0, 0, 0, api.ErrTwice, 0, 0, 0, 0, api.ErrNone}},
		{two, single(7, 17), numbers(-1, 0), []api.Errno{0, api.ErrState, 0, 0, 0, 0, 0, api.ErrState, 0, api.ErrNone, 0}},
	} {
		if l := errorsOf(c.g, c.l, c.family); !slices.Equal(l, c.want) {
			t.Error(i, l)
		}
	}
}

// P9.2
func TestPattern(t *testing.T) {
	for i, c := range []struct {
		g    api.TwinGauge
		l    []api.TwinFan
		want []api.Span
		e    api.Errno
	}{
		{exampleGauge(), example()[:2], spans(to(96, 101), to(50, 52)), api.OK}, {exampleGauge(), example(), spans(to(96, 98), to(50, 52)), api.OK}, {exampleGauge(), exampleWrong(), nil, api.ErrState}, {exampleGauge(), exampleWrong()[:2], spans(to(96, 101), to(50, 52)), api.OK}, // examples 1 and 2
		{exampleGauge(), nil, nil, api.ErrNone}, {exampleGauge(), example()[1:2], spans(to(93, 101), to(50, 54)), api.OK},
		{gauge(0, 0, at(0)), single(7), spans(at(7)), api.OK}, {gauge(0, 0, at(0)), single(7, 7, 7), spans(at(7)), api.OK}, {gauge(0, 0, at(0)), single(7, 7, 8), nil, api.ErrState}, {gauge(0, 3, at(0)), single(10, 16), spans(at(13)), api.OK}, {gauge(0, 3, at(0)), single(10, 17), nil, api.ErrState}, {gauge(1, 3, at(0)), single(18, 10), spans(at(14)), api.OK}, {gauge(1, 3, at(0)), single(19, 10), nil, api.ErrState}, {gauge(1, 3, at(0)), single(14, 18, 11, 12), spans(to(14, 15)), api.OK},
		{gauge(5, 100, at(0)), single(0), spans(to(-105, 105)), api.OK}, {gauge(5, 100, at(0)), single(10000, 9800), spans(to(9895, 9905)), api.OK}, {gauge(5, 100, at(0)), single(0, 210), spans(at(105)), api.OK}, {gauge(5, 100, at(0)), single(0, 211), nil, api.ErrState}, // a pattern has no limits
		{gauges(gauge(0, 3, at(0)), gauge(0, 3, at(0))), fans(fan(10, 10), fan(16, 17)), nil, api.ErrState}, {gauges(gauge(0, 3, at(0)), gauge(0, 4, at(0))), fans(fan(10, 10), fan(16, 17)), spans(at(13), to(13, 14)), api.OK},
	} {
		if l, e := twin.Pattern(c.g, c.l); !slices.Equal(l, c.want) || e != c.e {
			t.Error(i, l, e)
		}
	}
}

// P9.3
func TestTwins(t *testing.T) {
	for i, c := range []struct {
		g                api.TwinGauge
		l                []api.TwinFan
		surely, possibly bool
	}{
		{exampleGauge(), example()[:2], false, true}, {exampleGauge(), example(), false, true}, {exampleGauge(), exampleWrong(), false, false}, // examples 1 and 2
		{exampleGauge(), nil, true, true}, {exampleGauge(), example()[:1], true, true}, {gauge(5, 0, at(0)), single(7), true, true}, {gauge(5, 0, at(0)), single(7, 7), false, true}, {gauge(0, 0, at(0)), single(7, 7), true, true}, {gauge(0, 0, at(0)), single(7, 8), false, false},
		{gauge(2, 5, at(0)), single(10, 16), true, true}, {gauge(2, 5, at(0)), single(17, 10), false, true}, {gauge(2, 5, at(0)), single(10, 24), false, true}, {gauge(2, 5, at(0)), single(25, 10), false, false}, {gauge(2, 2, at(0)), single(10, 10), true, true}, {gauge(2, 2, at(0)), single(10, 11), false, true}, {gauge(2, 1, at(0)), single(10, 10), false, true},
		{gauge(2, 5, at(0)), single(10, 16, 13, 12, 11), true, true}, {gauge(2, 5, at(0)), single(13, 17, 10), false, true}, {gauge(2, 5, at(0)), single(13, 25, 10), false, false},
		{gauges(gauge(0, 1, at(0)), gauge(0, 1, at(0))), fans(fan(5, 5), fan(7, 7)), true, true}, {gauges(gauge(0, 1, at(0)), gauge(1, 1, at(0))), fans(fan(5, 5), fan(7, 7)), false, true}, {gauges(gauge(0, 1, at(0)), gauge(1, 1, at(0))), fans(fan(5, 5), fan(8, 7)), false, false}, {gauges(gauge(0, 1, at(0)), gauge(1, 1, at(0))), fans(fan(5, 5), fan(7, 10)), false, false},
	} {
		if surely, possibly, e := twin.Twins(c.g, c.l); surely != c.surely || possibly != c.possibly || e != api.OK {
			t.Error(i, surely, possibly, e)
		}
	}
}

// P9.4
func TestMost(t *testing.T) {
	near := gauge(1, 1, at(0))
	for i, c := range []struct {
		g    api.TwinGauge
		l    []api.TwinFan
		want []int
	}{
		{exampleGauge(), example(), numbers(0, 1, 2)}, {exampleGauge(), exampleWrong(), numbers(0, 1)}, // examples 1 and 2
		{near, nil, nil}, {near, single(9), numbers(0)}, {near, single(9, 13), numbers(0, 1)}, {near, single(9, 14), numbers(0)}, {near, single(14, 9, 4), numbers(0)}, {near, single(14, 9, 5), numbers(1, 2)}, {near, single(14, 9, 10), numbers(0, 2)},
		{near, single(0, 4, 8), numbers(0, 1)}, {near, single(8, 0, 4), numbers(0, 2)}, {near, single(0, 20, 40, 41, 1), numbers(0, 4)}, {near, single(0, 20, 22, 24, 25), numbers(1, 2, 3)}, {near, single(25, 20, 22, 24, 0), numbers(0, 2, 3)}, {near, single(25, 20, 21, 21, 0), numbers(0, 2, 3)}, {near, single(1, 2, 3, 4, 5), numbers(0, 1, 2, 3, 4)}, {near, single(0, 100, 200, 300, 400), numbers(0)}, // the smallest of several
		{gauges(near, near), fans(fan(1, 1), fan(1, 9), fan(9, 9)), numbers(0)}, {gauges(near, near), fans(fan(1, 1), fan(1, 9), fan(2, 8)), numbers(1, 2)}, // in all measures
	} {
		if l, e := twin.Most(c.g, c.l); !slices.Equal(l, c.want) || e != api.OK {
			t.Error(i, l, e)
		}
	}
}

// P9.5
func TestWrong(t *testing.T) {
	near := gauge(1, 1, at(0))
	for i, c := range []struct {
		g    api.TwinGauge
		l    []api.TwinFan
		want []api.TwinSlip
		e    api.Errno
	}{
		{exampleGauge(), exampleWrong(), slips(0, 2), api.OK}, {exampleGauge(), example(), nil, api.ErrTwice}, // example 2
		{near, nil, nil, api.ErrTwice}, {near, single(3), nil, api.ErrTwice}, {near, single(3, 7), nil, api.ErrTwice}, {near, single(3, 8), slips(0, 0), api.OK}, {near, single(8, 3), slips(0, 0), api.OK}, {near, single(3, 8, 9), slips(0, 0), api.OK}, {near, single(8, 3, 9), slips(0, 1), api.OK}, {near, single(8, 9, 3), slips(0, 2), api.OK}, {near, single(0, 4, 8), slips(0, 0), api.OK}, {near, single(4, 0, 8), slips(0, 1), api.OK},
		{near, single(0, 9, 20), slips(0, 0, 0, 1), api.OK}, {near, single(0, 100, 200, 300, 400), slips(0, 0, 0, 1, 0, 2, 0, 3), api.OK}, {near, single(0, 10000, 1, 9999, 5000), slips(0, 0, 0, 2, 0, 4), api.OK}, {near, single(0, 0, 9, 9, 0), slips(0, 2, 0, 3), api.OK},
		{gauges(near, near), fans(fan(0, 9), fan(9, 0), fan(9, 9)), slips(0, 0, 1, 1), api.OK}, {gauges(near, near), fans(fan(0, 0), fan(9, 9), fan(9, 9)), slips(0, 0, 1, 0), api.OK}, {gauges(near, near), fans(fan(9, 0), fan(9, 9)), slips(1, 0), api.OK}, {gauges(near, near, near, near), fans(fan(1, 2, 3, 4), fan(1, 2, 3, 14), fan(1, 22, 3, 4)), slips(1, 2, 3, 1), api.OK}, // measure by measure
	} {
		if l, e := twin.Wrong(c.g, c.l); !slices.Equal(l, c.want) || e != c.e {
			t.Error(i, l, e)
		}
	}
}

// P9.6
func TestCopy(t *testing.T) {
	l := example()
	less := gauge(1, 0, to(-8, -2))
	for i, c := range []struct {
		g                api.TwinGauge
		a, b             api.TwinFan
		surely, possibly bool
	}{
		{exampleGauge(), l[0], l[1], false, true}, {exampleGauge(), l[1], l[0], false, false}, {exampleGauge(), l[0], l[2], false, true}, {exampleGauge(), l[1], l[2], false, true}, {exampleGauge(), l[0], fan(80, 50), false, false}, // example 3
		{less, fan(50), fan(46), true, true}, {less, fan(50), fan(44), true, true}, {less, fan(50), fan(43), false, true}, {less, fan(50), fan(47), false, true}, {less, fan(50), fan(50), false, true}, {less, fan(50), fan(51), false, false}, {less, fan(50), fan(40), false, true}, {less, fan(50), fan(39), false, false}, {less, fan(46), fan(50), false, false},
		{gauge(0, 9, at(0)), fan(5), fan(5), true, true}, {gauge(0, 9, at(0)), fan(5), fan(6), false, false}, {gauge(1, 9, at(0)), fan(5), fan(5), false, true}, {gauge(1, 9, to(0, 3)), fan(5), fan(6), false, true}, {gauge(5, 0, to(-100, 100)), fan(0), fan(90), true, true}, {gauge(5, 0, to(-100, 100)), fan(0), fan(91), false, true}, {gauge(5, 0, to(-100, 100)), fan(110), fan(0), false, true}, {gauge(5, 0, to(-100, 100)), fan(111), fan(0), false, false}, // how makers miss a pattern is nothing to it
		{gauges(less, less), fan(50, 50), fan(45, 45), true, true}, {gauges(less, less), fan(50, 50), fan(45, 50), false, true}, {gauges(less, less), fan(50, 50), fan(51, 45), false, false}, {gauges(gauge(0, 0, to(1, 2)), gauge(0, 0, at(-3))), fan(5, 5), fan(7, 2), true, true}, {gauges(gauge(0, 0, to(1, 2)), gauge(0, 0, at(-3))), fan(5, 5), fan(7, 3), false, false},
	} {
		if surely, possibly, e := twin.Copy(c.g, c.a, c.b); surely != c.surely || possibly != c.possibly || e != api.OK {
			t.Error(i, surely, possibly, e)
		}
	}
	for i, c := range []struct {
		g    api.TwinGauge
		a, b api.TwinFan
		e    api.Errno
	}{
		{less, fan(10001), fan(1), api.ErrRange}, {less, fan(1), fan(-1), api.ErrRange}, {less, fan(), fan(1), api.ErrRange}, {less, fan(1), fan(1, 1), api.ErrRange}, {gauge(6, 0, at(0)), fan(), fan(1), api.ErrArg}, {api.TwinGauge{}, fan(), fan(), api.ErrForm},
	} {
		if surely, possibly, e := twin.Copy(c.g, c.a, c.b); surely || possibly || e != c.e {
			t.Error(i, surely, possibly, e)
		}
	}
}

// P9.7 and P9.8
func TestFamilies(t *testing.T) {
	same, less := gauge(0, 9, at(0)), gauge(0, 0, at(-1))
	for i, c := range []struct {
		g                api.TwinGauge
		l                []api.TwinFan
		many             int
		first            []int
		surely, possibly []int
	}{
		{exampleGauge(), example(), 2, numbers(-1, 0, 0), numbers(0), numbers(0)}, {exampleGauge(), exampleWrong(), 1, numbers(-1, 0, -1), numbers(0, 2), numbers(0, 2)}, // example 4
		{same, nil, 1, nil, nil, nil}, {same, single(5), 1, numbers(-1), numbers(0), numbers(0)}, {same, single(5, 6), 1, numbers(-1, -1), numbers(0, 1), numbers(0, 1)}, {same, single(5, 5), 2, numbers(-1, 0), nil, numbers(0, 1)}, {same, single(5, 5, 5), 9, numbers(-1, 0, 0), nil, numbers(0, 1, 2)}, {same, single(5, 6, 5), 2, numbers(-1, -1, 0), numbers(1), numbers(0, 1, 2)}, {same, single(6, 5, 5), 2, numbers(-1, -1, 1), numbers(0), numbers(0, 1, 2)}, {same, single(5, 5, 6, 6), 4, numbers(-1, 0, -1, 2), nil, numbers(0, 1, 2, 3)}, {same, single(5, 5, 5, 5, 5), 625, numbers(-1, 0, 0, 0, 0), nil, numbers(0, 1, 2, 3, 4)},
		{less, single(5, 4, 3), 1, numbers(-1, 0, 1), numbers(0), numbers(0)}, {less, single(3, 4, 5), 1, numbers(1, 2, -1), numbers(2), numbers(2)}, {less, single(5, 4, 4, 4), 1, numbers(-1, 0, 0, 0), numbers(0), numbers(0)}, {less, single(5, 5, 4), 2, numbers(-1, -1, 0), numbers(0, 1), numbers(0, 1)}, {less, single(5, 3, 1), 1, numbers(-1, -1, -1), numbers(0, 1, 2), numbers(0, 1, 2)}, {less, single(9, 8, 7, 6, 5), 1, numbers(-1, 0, 1, 2, 3), numbers(0), numbers(0)}, {less, single(4, 5, 4, 5), 4, numbers(1, -1, 1, -1), numbers(1, 3), numbers(1, 3)},
		{gauge(1, 0, at(-1)), single(5, 4, 3), 5, numbers(-1, 0, 0), nil, numbers(0, 1)}, {gauge(0, 0, to(-1, 1)), single(5, 6, 7), 3, numbers(-1, 0, 1), nil, numbers(0, 1, 2)}, {gauge(1, 0, at(0)), single(5, 7, 9), 4, numbers(-1, -1, 1), nil, numbers(0, 1, 2)}, {gauge(1, 0, to(-2, 0)), single(5, 7, 9), 5, numbers(1, -1, 1), nil, numbers(1, 2)}, // two by two they are copies, but not all together
		{gauges(same, less), fans(fan(5, 5), fan(5, 4), fan(6, 4)), 1, numbers(-1, 0, -1), numbers(0, 2), numbers(0, 2)}, {gauges(same, gauge(0, 0, to(-1, 1))), fans(fan(5, 5), fan(5, 4), fan(5, 3)), 3, numbers(-1, 0, 1), nil, numbers(0, 1, 2)}, // in all measures
	} {
		many, first, e := twin.Families(c.g, c.l)
		if many != c.many || !slices.Equal(first, c.first) || e != api.OK {
			t.Error(i, many, first, e)
		}
		surely, possibly, e := twin.Originals(c.g, c.l)
		if !slices.Equal(surely, c.surely) || !slices.Equal(possibly, c.possibly) || e != api.OK {
			t.Error(i, surely, possibly, e)
		}
	}
}

// equalTruths compares what fans truly measure.
func equalTruths(a, b [][]api.Span) bool {
	return slices.EqualFunc(a, b, func(x, y []api.Span) bool { return slices.Equal(x, y) })
}

// P9.9
func TestTruth(t *testing.T) {
	same, less := gauge(1, 0, at(0)), gauge(1, 0, to(-4, -2))
	row := func(l ...api.Span) [][]api.Span {
		var all [][]api.Span
		for _, s := range l {
			all = append(all, spans(s))
		}
		return all
	}
	for i, c := range []struct {
		g      api.TwinGauge
		l      []api.TwinFan
		family []int
		want   [][]api.Span
		e      api.Errno
	}{
		{exampleGauge(), example(), numbers(-1, 0, 0), [][]api.Span{{at(99), to(50, 52)}, {to(96, 97), to(50, 52)}, {at(95), to(50, 52)}}, api.OK},                                                                                                                                                                                                                                                                                                                       // example 5
		{exampleGauge(), example(), numbers(-1, 0, -1), [][]api.Span{{to(99, 101), to(50, 52)}, {to(96, 98), to(50, 52)}, {to(93, 95), to(48, 52)}}, api.OK}, {exampleGauge(), example(), numbers(-1, -1, -1), [][]api.Span{{to(99, 101), to(48, 52)}, {to(96, 98), to(50, 54)}, {to(93, 95), to(48, 52)}}, api.OK}, {exampleGauge(), example(), numbers(-1, 0, 1), [][]api.Span{{to(99, 101), to(50, 52)}, {to(96, 98), to(50, 52)}, {to(93, 95), to(50, 52)}}, api.OK}, // there can be more originals
		{exampleGauge(), example(), numbers(1, -1, 1), nil, api.ErrState}, {exampleGauge(), exampleWrong(), numbers(-1, 0, 1), nil, api.ErrState}, {exampleGauge(), exampleWrong(), numbers(-1, 0, -1), [][]api.Span{{to(99, 101), to(50, 52)}, {to(96, 98), to(50, 52)}, {to(79, 81), to(48, 52)}}, api.OK},
		{same, nil, nil, nil, api.OK}, {same, single(0), numbers(-1), row(to(-1, 1)), api.OK}, {same, single(10000), numbers(-1), row(to(9999, 10001)), api.OK}, {same, single(5, 7), numbers(-1, 0), row(at(6), at(6)), api.OK}, {same, single(5, 7), numbers(1, -1), row(at(6), at(6)), api.OK}, {same, single(5, 7, 9), numbers(-1, 0, 1), nil, api.ErrState}, {same, single(5, 6, 7, 6, 6), numbers(-1, 0, 1, 2, 3), row(at(6), at(6), at(6), at(6), at(6)), api.OK}, {same, single(5, 6, 6, 6, 7), numbers(1, 2, 3, 4, -1), row(at(6), at(6), at(6), at(6), at(6)), api.OK}, {same, single(5, 6, 6, 6, 8), numbers(1, 2, 3, 4, -1), nil, api.ErrState},
		{less, single(50, 48, 46, 44, 42), numbers(-1, 0, 1, 2, 3), row(to(49, 51), to(47, 49), to(45, 47), to(43, 45), to(41, 43)), api.OK}, {less, single(50, 47, 44, 42, 43), numbers(-1, 0, 1, 2, 3), nil, api.ErrState}, {less, single(50, 46, 44, 42, 42), numbers(-1, 0, 1, 2, 3), row(to(49, 51), at(47), at(45), at(43), at(41)), api.OK}, {less, single(41, 42, 44, 47, 50), numbers(1, 2, 3, 4, -1), row(to(40, 41), to(42, 43), to(44, 45), to(46, 48), to(49, 51)), api.OK},
		{gauge(1, 0, to(-100, 100)), single(0, 102), numbers(-1, 0), row(at(1), at(101)), api.OK}, {gauge(1, 0, to(-100, 100)), single(103, 0), numbers(-1, 0), nil, api.ErrState},
		{same, single(5, 5), nil, nil, api.ErrTwice}, {same, single(5, 5), numbers(-1), nil, api.ErrTwice}, {same, single(5, 5), numbers(-1, -1, -1), nil, api.ErrTwice}, {same, single(5, 5), numbers(-1, 2), nil, api.ErrTwice}, {same, single(5, 5), numbers(-2, -1), nil, api.ErrTwice}, {same, single(5, 5), numbers(0, -1), nil, api.ErrTwice}, {same, single(5, 5), numbers(-1, 1), nil, api.ErrTwice}, {same, single(5, 5), numbers(1, 0), nil, api.ErrTwice}, {same, single(5, 5, 5), numbers(1, 2, 0), nil, api.ErrTwice}, {same, single(5, 5, 5, 5, 5), numbers(-1, 2, 3, 4, 1), nil, api.ErrTwice}, {same, single(5, 5, 5, 5, 5), numbers(1, 2, 3, 4, 3), nil, api.ErrTwice}, {same, single(5, 5, 5, 5, 5), numbers(1, 2, 3, 4, 0), nil, api.ErrTwice}, {same, single(5, 5), numbers(math.MaxInt, math.MinInt), nil, api.ErrTwice}, {same, nil, numbers(-1), nil, api.ErrTwice}, {same, single(5, 50), numbers(1, 0), nil, api.ErrTwice}, // no families of these fans
	} {
		l, e := twin.Truth(c.g, c.l, c.family)
		if e != c.e || e == api.OK && !equalTruths(l, c.want) || e != api.OK && len(l) != 0 {
			t.Error(i, l, e)
		}
		if _, f := twin.Blame(c.g, c.l, c.family); (e == api.ErrTwice) != (f == api.ErrTwice) {
			t.Error(i, f)
		}
	}
}

// P9.10
func TestBlame(t *testing.T) {
	same, less := gauge(1, 0, at(0)), gauge(0, 0, to(-4, -2))
	for i, c := range []struct {
		g      api.TwinGauge
		l      []api.TwinFan
		family []int
		want   []api.TwinSlip
		e      api.Errno
	}{
		{exampleGauge(), exampleWrong(), numbers(-1, 0, 1), slips(0, 2), api.OK}, {exampleGauge(), example(), numbers(-1, 0, 1), nil, api.OK}, {exampleGauge(), exampleWrong(), numbers(-1, 0, -1), nil, api.OK}, // example 6
		{same, nil, nil, nil, api.OK}, {same, single(5), numbers(-1), nil, api.OK}, {same, single(5, 7), numbers(-1, 0), nil, api.OK}, {same, single(5, 8), numbers(-1, 0), slips(0, 0), api.OK}, {same, single(5, 8), numbers(1, -1), slips(0, 0), api.OK}, {same, single(5, 8, 9), numbers(-1, 0, 0), slips(0, 0), api.OK}, {same, single(5, 8, 5), numbers(1, -1, 1), slips(0, 1), api.OK}, {same, single(5, 8, 11), numbers(-1, 0, 1), slips(0, 0, 0, 1), api.OK}, {same, single(5, 8, 11, 14, 17), numbers(-1, 0, 1, 2, 3), slips(0, 0, 0, 1, 0, 2, 0, 3), api.OK}, {same, single(5, 8, 5, 8, 5), numbers(-1, 0, 1, 2, 3), slips(0, 1, 0, 3), api.OK}, {same, single(5, 8, 9, 5), numbers(-1, 0, 1, -1), slips(0, 0), api.OK},
		{less, single(50, 47, 90, 41), numbers(-1, 0, 1, 2), slips(0, 2), api.OK}, {less, single(50, 47, 90, 38), numbers(-1, 0, 1, 2), slips(0, 1, 0, 2), api.OK}, {less, single(50, 0, 10000, 38), numbers(-1, 0, 1, 2), slips(0, 1, 0, 2), api.OK}, {less, single(50, 40, 30, 20, 10), numbers(-1, 0, 1, 2, 3), slips(0, 0, 0, 1, 0, 2, 0, 3), api.OK}, {less, single(50, 44, 41, 38), numbers(-1, 0, 1, 2), slips(0, 0), api.OK}, {less, single(50, 48, 40, 44), numbers(-1, 0, 1, 2), slips(0, 2), api.OK}, {less, single(50, 49, 46, 40), numbers(-1, 0, 0, 0), slips(0, 1, 0, 3), api.OK}, // a measure that is wrong can be any integer, but those of its kin bind it
		{gauge(0, 0, at(100)), single(10000, 0, 10000), numbers(-1, 0, 1), slips(0, 0, 0, 1), api.OK}, {gauge(0, 0, at(-100)), single(0, 5, 9), numbers(-1, 0, 1), slips(0, 0, 0, 1), api.OK}, {gauge(5, 0, at(-100)), single(0, 1, 2, 3, 4), numbers(-1, 0, 1, 2, 3), slips(0, 0, 0, 1, 0, 2, 0, 3), api.OK}, {gauge(5, 0, at(100)), single(10000, 1, 2, 3, 9999), numbers(-1, 0, 1, 2, 3), slips(0, 0, 0, 1, 0, 2, 0, 3), api.OK}, {gauge(0, 0, at(100)), single(9, 9, 9, 9, 10000), numbers(-1, 0, 1, 2, 3), slips(0, 0, 0, 1, 0, 2, 0, 3), api.OK}, // above all limits, and below them
		{gauges(same, less), fans(fan(5, 50), fan(8, 47), fan(5, 60)), numbers(-1, 0, 0), slips(0, 1, 1, 2), api.OK}, {gauges(less, same, less), fans(fan(50, 1, 50), fan(47, 1, 50), fan(47, 9, 47)), numbers(-1, 0, 0), slips(1, 2, 2, 1), api.OK}, // measure by measure
	} {
		if l, e := twin.Blame(c.g, c.l, c.family); !slices.Equal(l, c.want) || e != c.e {
			t.Error(i, l, e)
		}
	}
}

// P9.11
func TestLook(t *testing.T) {
	same := gauge(1, 0, at(0))
	for i, c := range []struct {
		g    api.TwinGauge
		l    []api.TwinFan
		slip api.TwinSlip
		left int
		e    api.Errno
	}{
		{exampleGauge(), example(), api.TwinSlip{}, 0, api.ErrNone}, {exampleGauge(), exampleWrong(), api.TwinSlip{}, 0, api.ErrNone}, // example 6
		{same, nil, api.TwinSlip{}, 0, api.ErrNone}, {same, single(5), api.TwinSlip{}, 0, api.ErrNone}, {same, single(5, 7), api.TwinSlip{}, 0, api.ErrNone}, {gauge(0, 0, at(0)), single(5, 5, 5, 5, 5), api.TwinSlip{}, 0, api.ErrNone}, {same, single(5, 5), api.TwinSlip{}, 0, api.ErrNone},
		{same, single(5, 7, 9), api.TwinSlip{Measure: 0, Fan: 1}, 2, api.OK}, {same, single(7, 5, 9), api.TwinSlip{Measure: 0, Fan: 0}, 2, api.OK}, {same, single(9, 5, 7), api.TwinSlip{Measure: 0, Fan: 2}, 2, api.OK}, // the fan between them is a twin of one of both
		{gauges(gauge(0, 0, to(-9, 9)), same), fans(fan(1, 5), fan(1, 9), fan(1, 7)), api.TwinSlip{Measure: 1, Fan: 2}, 2, api.OK}, {gauges(same, same), fans(fan(5, 5), fan(7, 7), fan(9, 9)), api.TwinSlip{Measure: 0, Fan: 1}, 2, api.OK}, // the first one of several
	} {
		if slip, left, e := twin.Look(c.g, c.l); slip != c.slip || left != c.left || e != c.e {
			t.Error(i, slip, left, e)
		}
	}
}
