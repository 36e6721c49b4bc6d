package mix_test

import (
	"math"
	"slices"
	"testing"

	"panache/api"
	"panache/mix"
	"panache/sets"
)

// errorsOf returns the errors of all functions with a load, of which those with other arguments have wrong ones.
func errorsOf(l api.MixLoad) []api.Errno {
	_, _, a := mix.Ways(l)
	_, b := mix.Can(l)
	_, _, c := mix.Together(l, -1, -1)
	_, d := mix.Worth(l, -1)
	_, _, e := mix.Ask(l)
	_, _, f := mix.Questions(l)
	_, g := mix.Wrong(l)
	_, h := mix.Short(l)
	_, i := mix.Share(l, -1, -1)
	return []api.Errno{mix.Check(l), a, b, c, d, e, f, g, h, i}
}

// P8.1: all functions have the errors of Check first.
func TestCheck(t *testing.T) {
	one, four := bill(0, at(0)), slices.Repeat(spans(at(0)), 4)
	nine, bad := slices.Repeat(boxes(box(at(0))), 9), box(at(-1))
	for i, c := range []struct {
		l api.MixLoad
		e api.Errno
	}{
		{example(), api.OK}, {exampleWrong(), api.OK}, {load(nil, one), api.OK}, {load(nine[:8], one), api.OK}, {load(nil, one, one, one), api.OK}, {load(nine, one), api.ErrLong}, {load(nil, one, one, one, one), api.ErrLong}, {load(nine, one, one, one, one), api.ErrLong}, {load(nine), api.ErrLong},
		{api.MixLoad{}, api.ErrNone}, {load(nine[:8]), api.ErrNone}, {load(boxes(bad)), api.ErrNone}, {load(boxes(box())), api.ErrNone},
		{load(nil, bill(0)), api.ErrForm}, {load(boxes(box()), bill(0)), api.ErrForm}, {load(nil, bill(0, four...)), api.ErrForm}, {load(boxes(box(four...)), bill(0, four...)), api.ErrForm}, {load(boxes(box(four[1:]...)), bill(1, four[1:]...)), api.OK},
		{load(boxes(box()), one), api.ErrForm}, {load(boxes(box(four[:2]...)), one), api.ErrForm}, {load(boxes(box(at(0)), box(four[:2]...)), one), api.ErrForm}, {load(nil, one, bill(0)), api.ErrForm}, {load(nil, one, one, bill(0, four[:2]...)), api.ErrForm}, {load(boxes(box(at(0))), bill(0, four[:2]...), one), api.ErrForm}, {load(boxes(box(four...)), one), api.ErrForm},
		{load(boxes(box(to(0, 1000))), one), api.OK}, {load(boxes(box(to(0, 1001))), one), api.ErrArg}, {load(boxes(bad), one), api.ErrArg}, {load(boxes(box(to(2, 1))), one), api.ErrArg}, {load(boxes(box(at(0)), box(at(1001))), one), api.ErrArg}, {load(boxes(box(at(0), at(0), to(4, 3))), bill(0, four[1:]...)), api.ErrArg}, {load(boxes(box(to(math.MinInt, math.MaxInt))), one), api.ErrArg},
		{load(nil, bill(0, to(0, 10000))), api.OK}, {load(nil, bill(0, to(0, 10001))), api.ErrArg}, {load(nil, bill(0, at(-1))), api.ErrArg}, {load(nil, bill(0, to(2, 1))), api.ErrArg}, {load(nil, one, one, bill(0, at(10001))), api.ErrArg}, {load(nil, bill(0, at(0), to(math.MaxInt, math.MinInt))), api.ErrArg},
		{load(nil, bill(8, at(0))), api.OK}, {load(nil, bill(9, at(0))), api.ErrArg}, {load(nil, bill(-1, at(0))), api.ErrArg}, {load(nil, one, bill(math.MaxInt, at(0))), api.ErrArg}, {load(nil, one, one, bill(math.MinInt, at(0))), api.ErrArg}, {load(nil, bill(math.MaxInt, at(0)), bill(math.MaxInt, at(0)), bill(2, at(0))), api.ErrArg},
		{load(append(nine[:8:8], box()), bill(-1)), api.ErrLong}, {load(boxes(bad, box()), one), api.ErrForm}, {load(boxes(bad), one, bill(9)), api.ErrForm}, {load(boxes(bad), bill(9, four...)), api.ErrForm}, // the error that is named first, whatever has it
	} {
		l := errorsOf(c.l)
		if l[0] != c.e {
			t.Error(i, l[0])
		}
		if c.e != api.OK && slices.ContainsFunc(l, func(e api.Errno) bool { return e != c.e }) {
			t.Error(i, l)
		}
	}
}

// P8.1: what comes after the errors of Check.
func TestErrorsAfterCheck(t *testing.T) {
	// Check, Ways, Can, Together, Worth, Ask, Questions, Wrong, Short, Share
	if l, want := errorsOf(exampleWrong()), []api.Errno{0, api.ErrState, api.ErrState, api.ErrState, api.ErrState, api.ErrState, api.ErrState, 0, 0, api.ErrState}; !slices.Equal(l, want) {
		t.Error(l)
	}
	if l, want := errorsOf(example()), []api.Errno{0, 0, 0, api.ErrRange, api.ErrRange, 0, 0, api.ErrTwice, 0, api.ErrRange}; !slices.Equal(l, want) {
		t.Error(l)
	}
	if l, want := errorsOf(alike(2)), []api.Errno{0, 0, 0, api.ErrRange, api.ErrRange, api.ErrFull, 0, api.ErrTwice, 0, api.ErrRange}; !slices.Equal(l, want) {
		t.Error(l)
	}
	if l, want := errorsOf(alike(3, 3, 2)), []api.Errno{0, 0, 0, api.ErrRange, api.ErrRange, 0, api.ErrLong, api.ErrTwice, 0, api.ErrRange}; !slices.Equal(l, want) {
		t.Error(l)
	}
	if l, want := errorsOf(load(nil, bill(1, at(0)))), []api.Errno{0, api.ErrState, api.ErrState, api.ErrState, api.ErrState, api.ErrState, api.ErrState, api.ErrNone, 0, api.ErrState}; !slices.Equal(l, want) {
		t.Error(l)
	}
}

// P8.1: loads that just have a way, and those that have none.
func TestNoWay(t *testing.T) {
	two := boxes(box(to(1, 2)), box(to(3, 4)))
	for i, c := range []struct {
		l api.MixLoad
		e api.Errno
	}{
		{load(two, bill(2, to(0, 4))), api.OK}, {load(two, bill(2, to(0, 3))), api.ErrState}, {load(two, bill(2, to(6, 9))), api.OK}, {load(two, bill(2, to(7, 9))), api.ErrState}, {load(two, bill(2, at(5))), api.OK}, {load(two, bill(2, to(0, 10000))), api.OK},
		{load(two, bill(1, to(0, 10000))), api.ErrState}, {load(two, bill(3, to(0, 10000))), api.ErrState}, {load(two, bill(0, to(0, 10000))), api.ErrState}, {load(two, bill(2, at(5)), bill(0, at(0))), api.OK}, {load(two, bill(2, at(5)), bill(1, to(0, 5))), api.ErrState}, {load(nil, bill(0, at(0)), bill(1, at(0))), api.ErrState}, {load(nil, bill(8, at(0))), api.ErrState}, {load(two, bill(8, at(0)), bill(8, at(0)), bill(8, at(0))), api.ErrState}, // all boxes go to carriers, as many as are said
		{load(nil, bill(0, to(0, 5))), api.OK}, {load(nil, bill(0, to(1, 5))), api.ErrState}, {load(two, bill(2, at(5)), bill(0, at(1))), api.ErrState}, {load(nil, bill(0, at(0), at(0), to(0, 9))), api.OK}, {load(nil, bill(0, at(0), at(0), at(9))), api.ErrState}, // of no boxes the sum is 0
		{load(boxes(box(at(1), at(2))), bill(1, at(1), at(2))), api.OK}, {load(boxes(box(at(1), at(2))), bill(1, at(1), at(3))), api.ErrState}, {load(boxes(box(at(1), at(2))), bill(1, at(0), at(2))), api.ErrState}, {load(boxes(box(at(1), at(2), at(3))), bill(1, at(1), at(2), at(4))), api.ErrState}, // all stuffs count
		{load(known(3, 4), bill(1, at(4)), bill(1, at(3))), api.OK}, {load(known(3, 4), bill(1, at(4)), bill(1, at(4))), api.ErrState}, {load(known(2, 2), bill(1, at(3)), bill(1, at(1))), api.ErrState},
		{load(slices.Repeat(known(1000), 8), bill(8, at(8000))), api.OK}, {load(slices.Repeat(known(1000), 8), bill(8, to(8001, 10000))), api.ErrState},
	} {
		many, first, e := mix.Ways(c.l)
		if e != c.e || (many > 0) != (e == api.OK) || e != api.OK && len(first) != 0 {
			t.Error(i, many, first, e)
		}
		if e := mix.Check(c.l); e != api.OK {
			t.Error(i, e)
		}
	}
}

// threeHundred has as many ways as questions decide at most, and tooMany has one more.
func threeHundred() api.MixLoad {
	return load(known(4, 3, 3, 0, 3, 3, 3, 0), bill(3, to(5, 8)), bill(3, to(1, 10)), bill(2, to(0, 10000)))
}

func tooMany() api.MixLoad {
	return load(known(2, 0, 4, 3, 0, 1, 0, 1), bill(3, to(4, 7)), bill(3, to(0, 6)), bill(2, to(0, 10000)))
}

// P8.2, P8.3, P8.6 and P8.7
func TestWays(t *testing.T) {
	for i, c := range []struct {
		l                        api.MixLoad
		many                     int
		first, can               []int
		ask, left                int
		e                        api.Errno
		questions, firstQuestion int
		f                        api.Errno
	}{
		{example(), 2, numbers(0, 0, 1, 1), numbers(3, 1, 3, 2), 0, 1, api.OK, 1, 0, api.OK},                                                                                                                                                                                                                 // examples 1, 2 and 3
		{alike(0), 1, nil, nil, 0, 0, api.ErrFull, 0, -1, api.OK}, {alike(0, 0, 0), 1, nil, nil, 0, 0, api.ErrFull, 0, -1, api.OK}, {alike(3), 1, numbers(0, 0, 0), numbers(1, 1, 1), 0, 0, api.ErrFull, 0, -1, api.OK}, {alike(0, 0, 2), 1, numbers(2, 2), numbers(4, 4), 0, 0, api.ErrFull, 0, -1, api.OK}, // one way alone, also of no boxes
		{alike(1, 1), 2, numbers(0, 1), numbers(3, 3), 0, 1, api.OK, 1, 0, api.OK}, {alike(2, 1), 3, numbers(0, 0, 1), numbers(3, 3, 3), 0, 2, api.OK, 2, 0, api.OK}, {alike(1, 2), 3, numbers(0, 1, 1), numbers(3, 3, 3), 0, 2, api.OK, 2, 0, api.OK}, {alike(1, 0, 2), 3, numbers(0, 2, 2), numbers(5, 5, 5), 0, 2, api.OK, 2, 0, api.OK}, {alike(1, 1, 1), 6, numbers(0, 1, 2), numbers(7, 7, 7), 0, 2, api.OK, 2, 0, api.OK}, // whose the last box is need not be asked
		{alike(2, 2, 2), 90, numbers(0, 0, 1, 1, 2, 2), numbers(7, 7, 7, 7, 7, 7), 0, 30, api.OK, 5, 0, api.OK}, {alike(4, 4), 70, numbers(0, 0, 0, 0, 1, 1, 1, 1), slices.Repeat(numbers(3), 8), 0, 35, api.OK, 7, 0, api.OK}, {alike(4, 3, 1), 280, numbers(0, 0, 0, 0, 1, 1, 1, 2), slices.Repeat(numbers(7), 8), 0, 140, api.OK, 7, 0, api.OK}, {alike(3, 3, 2), 560, numbers(0, 0, 0, 1, 1, 1, 2, 2), slices.Repeat(numbers(7), 8), 0, 210, api.OK, 0, 0, api.ErrLong}, // the most ways that can be
		{load(known(3, 4), bill(1, at(4)), bill(1, at(3))), 1, numbers(1, 0), numbers(2, 1), 0, 0, api.ErrFull, 0, -1, api.OK}, {load(boxes(box(at(1), at(2)), box(at(1), at(3))), bill(1, at(1), at(3)), bill(1, to(0, 5), at(2))), 1, numbers(1, 0), numbers(2, 1), 0, 0, api.ErrFull, 0, -1, api.OK}, {load(known(1, 2, 3, 4), bill(2, at(5)), bill(2, at(5))), 2, numbers(0, 1, 1, 0), numbers(3, 3, 3, 3), 0, 1, api.OK, 1, 0, api.OK},
		{load(known(9, 1, 1), bill(1, at(9)), bill(1, at(1)), bill(1, at(1))), 2, numbers(0, 1, 2), numbers(1, 6, 6), 1, 1, api.OK, 1, 1, api.OK}, {load(known(1, 2, 3), bill(1, to(2, 3)), bill(2, to(0, 9))), 2, numbers(1, 0, 1), numbers(2, 3, 3), 1, 1, api.OK, 1, 1, api.OK}, // whose the box 0 is is known
	} {
		many, first, d := mix.Ways(c.l)
		can, g := mix.Can(c.l)
		if many != c.many || !slices.Equal(first, c.first) || !slices.Equal(can, c.can) || d != api.OK || g != api.OK {
			t.Error(i, many, first, can, d, g)
		}
		if ask, left, e := mix.Ask(c.l); ask != c.ask || left != c.left || e != c.e {
			t.Error(i, ask, left, e)
		}
		if questions, first, e := mix.Questions(c.l); questions != c.questions || first != c.firstQuestion || e != c.f {
			t.Error(i, questions, first, e)
		}
	}
}

// P8.4
func TestTogether(t *testing.T) {
	sorted := load(known(9, 1, 9, 1), bill(2, at(18)), bill(2, at(2)))
	for i, c := range []struct {
		l                api.MixLoad
		a, b             int
		surely, possibly bool
		e                api.Errno
	}{
		{example(), 1, 3, false, false, api.OK}, {example(), 0, 1, false, true, api.OK}, // example 2
		{example(), 0, 2, false, false, api.OK}, {example(), 0, 3, false, true, api.OK}, {example(), 1, 2, false, true, api.OK}, {example(), 2, 3, false, true, api.OK},
		{alike(2), 0, 1, true, true, api.OK}, {alike(0, 2), 0, 1, true, true, api.OK}, {alike(1, 1), 0, 1, false, false, api.OK}, {alike(2, 1), 0, 2, false, true, api.OK}, {sorted, 0, 2, true, true, api.OK}, {sorted, 1, 3, true, true, api.OK}, {sorted, 0, 1, false, false, api.OK}, {sorted, 2, 3, false, false, api.OK},
		{load(known(5, 5, 7, 7), bill(2, at(10)), bill(2, at(14))), 0, 1, true, true, api.OK}, {load(known(5, 5, 7, 7), bill(2, at(12)), bill(2, at(12))), 0, 1, false, false, api.OK}, {load(known(5, 7, 5, 7), bill(2, at(12)), bill(2, at(12))), 0, 1, false, true, api.OK}, {load(known(1, 2, 4), bill(2, at(3)), bill(1, at(4))), 0, 1, true, true, api.OK}, {load(known(3, 3, 6), bill(2, to(6, 9)), bill(1, to(0, 9))), 0, 1, false, true, api.OK},
		{load(known(1, 2, 3, 3), bill(2, at(3)), bill(1, at(3)), bill(1, at(3))), 0, 1, true, true, api.OK}, {load(known(2, 2, 3, 3), bill(2, at(4)), bill(2, at(6)), bill(0, at(0))), 2, 3, true, true, api.OK}, {load(known(4, 4, 9), bill(2, at(8)), bill(1, at(9))), 0, 1, true, true, api.OK}, {load(known(5, 5, 5, 5), bill(2, at(10)), bill(0, at(0)), bill(2, at(10))), 0, 3, false, true, api.OK},
		{example(), 0, 0, false, false, api.ErrRange}, {example(), 3, 3, false, false, api.ErrRange}, {example(), -1, 0, false, false, api.ErrRange}, {example(), 0, -1, false, false, api.ErrRange}, {example(), 4, 0, false, false, api.ErrRange}, {example(), 0, 4, false, false, api.ErrRange}, {example(), math.MinInt, math.MaxInt, false, false, api.ErrRange}, {alike(1), 0, 1, false, false, api.ErrRange}, {alike(0), 0, 1, false, false, api.ErrRange}, {exampleWrong(), 0, 0, false, false, api.ErrState},
	} {
		surely, possibly, e := mix.Together(c.l, c.a, c.b)
		other, perhaps, f := mix.Together(c.l, c.b, c.a)
		if surely != c.surely || possibly != c.possibly || e != c.e || other != surely || perhaps != possibly || f != e {
			t.Error(i, surely, possibly, e, other, perhaps, f)
		}
	}
}

// P8.5
func TestWorth(t *testing.T) {
	for i, c := range []struct {
		l         api.MixLoad
		box, want int
		e         api.Errno
	}{
		{example(), 0, 1, api.OK}, {example(), 1, 2, api.OK}, {example(), 2, 1, api.OK}, {example(), 3, 2, api.OK}, // example 3
		{alike(1), 0, 1, api.OK}, {alike(2, 1), 0, 2, api.OK}, {alike(2, 1), 2, 2, api.OK}, {alike(1, 3), 3, 3, api.OK}, {alike(4, 4), 7, 35, api.OK}, {alike(5, 2, 1), 4, 105, api.OK}, {alike(2, 2, 4), 1, 210, api.OK},
		{example(), -1, 0, api.ErrRange}, {example(), 4, 0, api.ErrRange}, {example(), math.MinInt, 0, api.ErrRange}, {example(), math.MaxInt, 0, api.ErrRange}, {alike(0), 0, 0, api.ErrRange}, {exampleWrong(), 4, 0, api.ErrState},
	} {
		if worth, e := mix.Worth(c.l, c.box); worth != c.want || e != c.e {
			t.Error(i, worth, e)
		}
	}
}

// P8.7: as many ways as there may be, and one more.
func TestMostWays(t *testing.T) {
	for i, c := range []struct {
		l    api.MixLoad
		many int
		e    api.Errno
	}{{threeHundred(), 300, api.OK}, {tooMany(), 301, api.ErrLong}} {
		if n := len(allWays(c.l)); n != c.many || manyWays(c.l) != n {
			t.Error(i, n)
		}
		if n, first, e := mix.Questions(c.l); e != c.e || (n > 0) != (e == api.OK) || e != api.OK && first != 0 {
			t.Error(i, n, first, e)
		}
	}
}

// P8.6 and P8.7: the first box of several that will do; which is not always the one that Ask names.
func TestFirstQuestion(t *testing.T) {
	for i, c := range []struct {
		l                      api.MixLoad
		ask, left, many, first int
	}{
		{load(known(7, 7, 1, 1, 1), bill(2, at(14)), bill(2, at(2)), bill(1, at(1))), 2, 2, 2, 2}, {load(known(1, 7, 1, 7), bill(1, at(7)), bill(1, at(7)), bill(2, at(2))), 1, 1, 1, 1}, {load(known(1, 1, 7, 7), bill(2, at(8)), bill(2, at(8))), 0, 2, 2, 0},
		{load(boxes(box(to(2, 3)), box(to(1, 2)), box(to(0, 2)), box(at(1))), bill(2, at(2)), bill(1, to(1, 2)), bill(1, to(2, 3))), 0, 3, 2, 1}, // ways: 0201 1020 1200 2001 2010 2100
		{load(boxes(box(to(2, 3)), box(to(1, 2)), box(to(3, 5)), box(at(4))), bill(1, at(4)), bill(1, to(1, 3)), bill(2, to(5, 7))), 2, 2, 2, 0}, // ways: 1202 1220 2102 2120 2210
	} {
		ask, left, e := mix.Ask(c.l)
		many, first, f := mix.Questions(c.l)
		if ask != c.ask || left != c.left || many != c.many || first != c.first || e != api.OK || f != api.OK {
			t.Error(i, ask, left, many, first, e, f)
		}
	}
}

// P8.8
func TestWrong(t *testing.T) {
	eight := slices.Repeat(known(5), 8)
	for i, c := range []struct {
		l    api.MixLoad
		want []int
		e    api.Errno
	}{
		{exampleWrong(), numbers(0), api.OK}, {example(), nil, api.ErrTwice}, {alike(0), nil, api.ErrTwice}, // example 4
		{load(known(5, 7), bill(1, at(5)), bill(1, at(8))), numbers(1), api.OK}, {load(known(5, 7), bill(1, at(6)), bill(1, at(7))), numbers(0), api.OK}, {load(known(5, 7), bill(1, at(6)), bill(1, at(8))), numbers(0, 1), api.OK}, {load(known(1, 2, 3), bill(1, at(7)), bill(1, at(8)), bill(1, at(3))), numbers(0, 1), api.OK}, {load(known(1, 2, 3), bill(1, at(7)), bill(1, at(2)), bill(1, at(8))), numbers(0, 2), api.OK},
		{load(known(3), bill(1, at(10000))), numbers(0), api.OK}, {load(known(3), bill(1, at(0))), numbers(0), api.OK}, {load(known(3, 3), bill(2, at(10000))), numbers(0), api.OK}, {load(known(5, 5), bill(2, at(9))), numbers(0), api.OK}, {load(known(5, 5), bill(2, at(5))), numbers(0), api.OK}, {load(known(5, 5), bill(2, at(4))), numbers(0, 1), api.OK}, {load(known(5, 6), bill(2, at(5))), numbers(1), api.OK}, // any number from 0 on, but none below
		{load(boxes(box(at(1), at(1))), bill(1, at(2), at(3))), numbers(0), api.OK}, {load(boxes(box(at(1), at(1), at(9)), box(at(1), at(2), at(3))), bill(2, at(8), at(0), at(3))), numbers(0, 1), api.OK}, {load(boxes(box(at(1), at(0), at(9)), box(at(1), at(0), at(3))), bill(2, at(8), at(0), at(3))), numbers(0), api.OK}, {load(boxes(box(at(1), at(0), at(3)), box(at(1), at(0), at(9))), bill(2, at(8), at(0), at(3))), numbers(1), api.OK}, // of each stuff
		{load(eight, bill(8, at(0))), sets.Members(255), api.OK}, {load(eight, bill(8, at(4))), sets.Members(255), api.OK}, {load(eight, bill(8, at(5))), sets.Members(127), api.OK}, {load(eight, bill(4, at(0)), bill(4, at(20))), numbers(0, 1, 2, 3), api.OK}, {load(eight, bill(3, at(5)), bill(3, at(5)), bill(2, at(5))), numbers(0, 1, 2, 3, 4), api.OK}, {load(eight, bill(8, at(41))), numbers(0), api.OK},
		{load(nil, bill(0, at(1))), nil, api.ErrNone}, {load(known(1), bill(1, at(1)), bill(0, at(1))), nil, api.ErrNone}, {load(known(1), bill(1, at(1)), bill(0, at(0), at(0))), nil, api.ErrForm}, {load(known(1), bill(0, at(1))), nil, api.ErrNone}, {load(known(1), bill(2, at(1))), nil, api.ErrNone}, {load(nil, bill(1, at(0))), nil, api.ErrNone}, {load(eight, bill(8, at(0)), bill(8, at(0)), bill(8, at(0))), nil, api.ErrNone}, {load(known(1, 1), bill(1, at(1)), bill(1, at(5)), bill(0, to(0, 3))), numbers(0), api.OK}, {load(boxes(box(at(1), at(1))), bill(1, at(1), at(1)), bill(0, at(0), at(2))), nil, api.ErrNone}, // as many boxes as are said, and nothing in none
	} {
		if l, e := mix.Wrong(c.l); !slices.Equal(l, c.want) || e != c.e {
			t.Error(i, l, e)
		}
	}
}

// P8.9
func TestShort(t *testing.T) {
	for i, c := range []struct {
		l    api.MixLoad
		want []api.Span
	}{
		{example(), spans(to(-3, 4))}, {exampleWrong(), spans(to(-21, -5))}, // example 5
		{load(nil, bill(0, to(2, 5))), spans(to(-5, -2))}, {load(nil, bill(3, at(0)), bill(8, at(0))), spans(at(0))}, {load(known(4), bill(0, at(1)), bill(0, at(2)), bill(0, at(3))), spans(at(-2))}, {load(known(4, 5, 6), bill(3, at(15))), spans(at(0))}, {load(known(4, 5, 6), bill(3, at(12))), spans(at(3))},
		{load(boxes(box(to(1, 2), to(10, 20), at(7)), box(to(3, 5), at(4), at(0))), bill(1, to(2, 3), at(9), at(8)), bill(1, at(1), to(1, 5), at(0))), spans(to(0, 4), to(0, 14), at(-1))},
		{load(slices.Repeat(boxes(box(to(0, 1000))), 8), slices.Repeat([]api.MixBill{bill(8, to(0, 10000))}, 3)...), spans(to(-30000, 8000))},
	} {
		if l, e := mix.Short(c.l); !slices.Equal(l, c.want) || e != api.OK {
			t.Error(i, l, e)
		}
	}
}

// P8.10
func TestShare(t *testing.T) {
	one := boxes(box(to(10, 12)))
	several := load(boxes(box(to(1, 2), at(7)), box(to(5, 6), at(7))), bill(1, to(2, 9), at(7)), bill(1, to(0, 5), at(7)))
	for i, c := range []struct {
		l              api.MixLoad
		carrier, stuff int
		want           api.Span
		e              api.Errno
	}{
		{example(), 1, 0, to(41, 42), api.OK}, {example(), 0, 0, to(30, 32), api.OK}, // example 5
		{load(one, bill(1, to(0, 11))), 0, 0, to(10, 11), api.OK}, {load(one, bill(1, to(11, 20))), 0, 0, to(11, 12), api.OK}, {load(one, bill(1, at(11))), 0, 0, at(11), api.OK}, {load(one, bill(1, to(0, 10000))), 0, 0, to(10, 12), api.OK}, {load(one, bill(0, to(0, 9)), bill(1, to(0, 10))), 0, 0, at(0), api.OK}, {load(one, bill(0, to(0, 9)), bill(1, to(0, 10))), 1, 0, at(10), api.OK}, {load(nil, bill(0, to(0, 9))), 0, 0, at(0), api.OK},
		{load(known(3, 9), bill(1, to(0, 10)), bill(1, to(0, 10))), 0, 0, to(3, 9), api.OK}, {load(known(3, 9), bill(1, to(0, 10)), bill(1, to(0, 10))), 1, 0, to(3, 9), api.OK}, {load(known(3, 9), bill(1, to(0, 8)), bill(1, to(0, 10))), 0, 0, at(3), api.OK}, {load(known(3, 9), bill(1, to(0, 10)), bill(1, to(0, 8))), 0, 0, at(9), api.OK}, // of all ways
		{several, 0, 0, to(2, 6), api.OK}, {several, 0, 1, at(7), api.OK}, {several, 1, 0, to(1, 5), api.OK}, {several, 1, 1, at(7), api.OK}, {load(boxes(box(to(1, 2), to(3, 4), to(5, 6)), box(at(10), at(20), at(30))), bill(2, to(0, 11), to(24, 99), to(0, 100))), 0, 2, to(35, 36), api.OK},
		{load(slices.Repeat(known(1000), 8), bill(8, to(8000, 10000))), 0, 0, at(8000), api.OK},
		{example(), -1, 0, to(0, 0), api.ErrRange}, {example(), 2, 0, to(0, 0), api.ErrRange}, {example(), 0, -1, to(0, 0), api.ErrRange}, {example(), 0, 1, to(0, 0), api.ErrRange}, {several, 0, 2, to(0, 0), api.ErrRange}, {several, 2, 0, to(0, 0), api.ErrRange}, {example(), math.MaxInt, math.MinInt, to(0, 0), api.ErrRange}, {exampleWrong(), 2, 0, to(0, 0), api.ErrState}, {exampleWrong(), 0, 0, to(0, 0), api.ErrState},
	} {
		if s, e := mix.Share(c.l, c.carrier, c.stuff); s != c.want || e != c.e {
			t.Error(i, s, e)
		}
	}
}
