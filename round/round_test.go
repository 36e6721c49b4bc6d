package round_test

import (
	"math"
	"slices"
	"testing"

	"panache/api"
	"panache/round"
)

// errorsOf returns the errors of all functions with a task, a round and a time.
func errorsOf(t api.RoundTask, order []int, time int) []api.Errno {
	_, a := round.Best(t)
	_, b := round.Most(t)
	_, c := round.Days(t)
	_, d := round.Against(t)
	_, f := round.Times(t, order)
	_, g := round.Load(t, order)
	_, _, h := round.Fault(t, order)
	_, i := round.Late(t, order)
	_, j := round.Where(t, order, time)
	_, _, k := round.Worth(t, order)
	return []api.Errno{round.Check(t), a, b, c, d, f, g, h, i, j, k}
}

// P10.1: all functions have the errors of Check first, before those of a round and a time.
func TestCheck(t *testing.T) {
	type change = func(t *api.RoundTask)
	seven := even(at(600), slices.Repeat(places(place(5000, 5000, 600, 100, 100)), 7)...)
	eight := even(at(0), slices.Repeat(places(free()), 8)...)
	minutes := func(l ...[]api.Span) change { return func(t *api.RoundTask) { t.Minutes = l } }
	list := func(l ...api.RoundPlace) change { return func(t *api.RoundTask) { t.Places = l } }
	row := spans(at(0), at(0), at(0))
	for i, c := range []struct {
		t api.RoundTask
		e api.Errno
	}{
		{example(), api.OK}, {seven, api.OK}, {even(at(0)), api.OK}, {even(at(0), free()), api.OK}, {with(seven, holding(1000), leaving(5000, 5000)), api.OK}, {with(seven, holding(0), leaving(0, 0)), api.OK},
		{eight, api.ErrLong}, {with(eight, minutes()), api.ErrLong}, {with(eight, holding(-1), taking(0, 1, at(-1))), api.ErrLong},
		{api.RoundTask{}, api.ErrForm}, {api.RoundTask{Minutes: [][]api.Span{nil}}, api.ErrForm}, {api.RoundTask{Minutes: [][]api.Span{spans(at(0))}}, api.OK}, {api.RoundTask{Minutes: [][]api.Span{spans(at(0), at(0))}}, api.ErrForm}, {api.RoundTask{Minutes: [][]api.Span{spans(at(0)), spans(at(0))}}, api.ErrForm},
		{example(minutes()), api.ErrForm}, {example(minutes(row, row)), api.ErrForm}, {example(minutes(row, row, row)), api.OK}, {example(minutes(row, row, row, row)), api.ErrForm}, {example(minutes(row, row[:2], row)), api.ErrForm}, {example(minutes(row, row, nil)), api.ErrForm}, {example(minutes(row, row, append(slices.Clone(row), at(0)))), api.ErrForm}, {example(minutes(row[:2], row[:2], row[:2])), api.ErrForm}, {example(list()), api.ErrForm}, {example(list(free())), api.ErrForm}, {example(list(free(), free(), free())), api.ErrForm}, {example(minutes(spans(at(-1)), row, row)), api.ErrForm},
		{example(taking(0, 1, at(600))), api.OK}, {example(taking(0, 1, to(0, 600))), api.OK}, {example(taking(0, 1, at(601))), api.ErrArg}, {example(taking(0, 1, to(600, 601))), api.ErrArg}, {example(taking(2, 0, to(-1, 0))), api.ErrArg}, {example(taking(2, 1, to(5, 4))), api.ErrArg}, {example(taking(1, 2, to(math.MinInt, math.MaxInt))), api.ErrArg},
		{example(taking(0, 0, to(0, 1))), api.ErrArg}, {example(taking(1, 1, at(1))), api.ErrArg}, {example(taking(2, 2, to(-1, 0))), api.ErrArg}, {with(even(at(0)), taking(0, 0, at(1))), api.ErrArg}, {example(taking(2, 2, at(1)), holding(-1)), api.ErrArg}, // a road from a place to itself
		{example(holding(-1)), api.ErrRange}, {example(holding(1000)), api.OK}, {example(holding(1001)), api.ErrRange}, {example(holding(math.MaxInt)), api.ErrRange}, {example(leaving(-1, 80)), api.ErrRange}, {example(leaving(81, 80)), api.ErrRange}, {example(leaving(80, 80)), api.OK}, {example(leaving(0, 5000)), api.OK}, {example(leaving(0, 5001)), api.ErrRange}, {example(leaving(5001, 5001)), api.ErrRange}, {example(leaving(5001, 5000)), api.ErrRange}, {example(leaving(0, -1)), api.ErrRange}, {example(leaving(-2, -1)), api.ErrRange}, {example(leaving(math.MinInt, math.MaxInt)), api.ErrRange}, {with(even(at(0)), leaving(1, 0)), api.ErrRange},
		{example(having(1, place(5000, 0, 0, 0, 0))), api.OK}, // work can be there when it is too late to come
		{example(having(1, place(-1, 0, 0, 0, 0))), api.ErrRange}, {example(having(1, place(5001, 0, 0, 0, 0))), api.ErrRange}, {example(having(2, place(0, -1, 0, 0, 0))), api.ErrRange}, {example(having(2, place(0, 5001, 0, 0, 0))), api.ErrRange}, {example(having(1, place(0, 0, -1, 0, 0))), api.ErrRange}, {example(having(1, place(0, 0, 601, 0, 0))), api.ErrRange}, {example(having(2, place(0, 0, 0, -1, 0))), api.ErrRange}, {example(having(2, place(0, 0, 0, 101, 0))), api.ErrRange}, {example(having(1, place(0, 0, 0, 0, -1))), api.ErrRange}, {example(having(1, place(0, 0, 0, 0, 101))), api.ErrRange}, {example(having(2, place(math.MinInt, math.MaxInt, math.MinInt, math.MaxInt, math.MinInt))), api.ErrRange},
	} {
		l := errorsOf(c.t, numbers(9, 9), -1)
		if l[0] != c.e {
			t.Error(i, l[0])
		}
		if c.e != api.OK && slices.ContainsFunc(l, func(e api.Errno) bool { return e != c.e }) {
			t.Error(i, l)
		}
	}
}

// P10.1: what is a round, and the errors that come after.
func TestErrorsAfterCheck(t *testing.T) {
	no, twice, none, state := api.OK, api.ErrTwice, api.ErrNone, api.ErrState
	for i, c := range []struct {
		t     api.RoundTask
		order []int
		time  int
		want  []api.Errno
	}{
		// Check, Best, Most, Days, Against, Times, Load, Fault, Late, Where, Worth
		{example(), numbers(1, 2), 0, []api.Errno{no, no, no, no, none, no, no, none, no, no, no}},
		{example(), numbers(2, 1), 5000, []api.Errno{no, no, no, no, none, no, no, no, state, no, no}},
		{example(), nil, 0, []api.Errno{no, no, no, no, none, no, no, none, no, no, none}},
		{example(), numbers(1), -1, []api.Errno{no, no, no, no, none, no, no, none, no, api.ErrArg, no}},
		{example(), nil, 5001, []api.Errno{no, no, no, no, none, no, no, none, no, api.ErrArg, none}},
		{example(), numbers(2), math.MinInt, []api.Errno{no, no, no, no, none, no, no, none, no, api.ErrArg, no}},
		{example(), numbers(2), math.MaxInt, []api.Errno{no, no, no, no, none, no, no, none, no, api.ErrArg, no}},
		{example(), numbers(0), 0, []api.Errno{no, no, no, no, none, twice, twice, twice, twice, twice, twice}},
		{example(), numbers(3), -1, []api.Errno{no, no, no, no, none, twice, twice, twice, twice, twice, twice}},
		{example(), numbers(1, 2, 1), 0, []api.Errno{no, no, no, no, none, twice, twice, twice, twice, twice, twice}},
		{example(), numbers(2, 2), 5001, []api.Errno{no, no, no, no, none, twice, twice, twice, twice, twice, twice}},
		{example(), numbers(1, -1), 0, []api.Errno{no, no, no, no, none, twice, twice, twice, twice, twice, twice}},
		{example(), numbers(math.MinInt), 0, []api.Errno{no, no, no, no, none, twice, twice, twice, twice, twice, twice}},
		{example(), numbers(2, math.MaxInt), 0, []api.Errno{no, no, no, no, none, twice, twice, twice, twice, twice, twice}},
		{example(holding(0)), numbers(64, 65), 0, []api.Errno{no, state, no, state, no, twice, twice, twice, twice, twice, twice}},
		{even(at(0)), nil, 0, []api.Errno{no, no, no, no, none, no, no, none, no, no, none}},
		{even(at(0)), numbers(1), 0, []api.Errno{no, no, no, no, none, twice, twice, twice, twice, twice, twice}},
	} {
		if l := errorsOf(c.t, c.order, c.time); !slices.Equal(l, c.want) {
			t.Error(i, l)
		}
	}
}

// P10.2 and P10.3
func TestTimesAndLoad(t *testing.T) {
	late := example(leaving(12, 80), having(2, place(0, 40, 10, 1, 4)))
	for i, c := range []struct {
		t     api.RoundTask
		order []int
		times []api.Span
		loads []int
	}{
		{example(), numbers(1, 2), spans(to(10, 15), to(20, 30), at(60)), numbers(4, 3, 6)}, {example(), numbers(2, 1), spans(at(20), to(45, 50), to(60, 70)), numbers(4, 7, 6)}, // examples 1 and 2
		{example(), nil, spans(at(0)), nil}, {example(leaving(12, 80)), nil, spans(at(12)), nil}, {example(leaving(80, 80)), nil, spans(at(80)), nil}, {even(at(0)), nil, spans(at(0)), nil}, // a round of none
		{example(), numbers(1), spans(to(10, 15), to(25, 35)), numbers(3, 2)}, {example(), numbers(2), spans(at(20), at(60)), numbers(1, 4)},
		{late, numbers(1, 2), spans(to(22, 27), to(32, 42), to(62, 72)), numbers(4, 3, 6)}, {late, numbers(2, 1), spans(at(32), to(47, 52), to(62, 72)), numbers(4, 7, 6)}, {example(leaving(10, 10)), numbers(1, 2), spans(to(20, 25), to(30, 40), to(60, 70)), numbers(4, 3, 6)},
		{example(taking(2, 0, to(0, 7))), numbers(1, 2), spans(to(10, 15), to(20, 30), to(40, 47)), numbers(4, 3, 6)}, {example(taking(0, 2, at(50))), numbers(2), spans(at(50), at(80)), numbers(1, 4)}, {example(taking(1, 2, to(20, 40))), numbers(1, 2), spans(to(10, 15), to(35, 60), to(65, 90)), numbers(4, 3, 6)}, // a road back can be another one; the wait can be for some truths
		{even(at(600), slices.Repeat(places(place(5000, 0, 600, 100, 100)), 7)...), numbers(7, 1, 6, 2, 5, 3, 4), spans(at(600), at(6200), at(7400), at(8600), at(9800), at(11000), at(12200), at(13400)), numbers(700, 700, 700, 700, 700, 700, 700, 700)}, // times have no limit of their own
		{even(at(1), place(0, 0, 0, 5, 0), place(0, 0, 0, 0, 7), place(0, 0, 0, 2, 3)), numbers(2, 3, 1), spans(at(1), at(2), at(3), at(4)), numbers(7, 14, 15, 10)},                                                                                        // what is for others stays in the house
		{even(at(1), place(0, 0, 0, 5, 0), place(0, 0, 0, 0, 7), place(0, 0, 0, 2, 3)), numbers(3, 2), spans(at(1), at(2), at(3)), numbers(2, 3, 10)},
	} {
		if l, e := round.Times(c.t, c.order); !slices.Equal(l, c.times) || e != api.OK {
			t.Error(i, l, e)
		}
		if l, e := round.Load(c.t, c.order); !slices.Equal(l, c.loads) || e != api.OK {
			t.Error(i, l, e)
		}
	}
}

// P10.4
func TestFault(t *testing.T) {
	for i, c := range []struct {
		t      api.RoundTask
		order  []int
		at     int
		surely bool
		e      api.Errno
	}{
		{example(), numbers(1, 2), 0, false, api.ErrNone}, {example(), numbers(2, 1), 1, true, api.OK}, {example(holding(5)), numbers(1, 2), 2, true, api.OK}, // examples 1 to 3
		{example(), nil, 0, false, api.ErrNone}, {example(holding(0), leaving(80, 80)), nil, 0, false, api.ErrNone}, {even(at(0)), nil, 0, false, api.ErrNone}, // a round of none is right
		{example(), numbers(1), 0, false, api.ErrNone}, {example(), numbers(2), 0, false, api.ErrNone}, {example(holding(3)), numbers(1), 0, false, api.ErrNone}, {example(holding(2)), numbers(1), 0, true, api.OK}, {example(holding(3)), numbers(2), 1, true, api.OK}, {example(holding(3)), numbers(1, 2), 0, true, api.OK},
		{example(having(1, place(0, 15, 5, 3, 2))), numbers(1, 2), 0, false, api.ErrNone}, {example(having(1, place(0, 14, 5, 3, 2))), numbers(1, 2), 0, false, api.OK}, {example(having(1, place(0, 10, 5, 3, 2))), numbers(1, 2), 0, false, api.OK}, {example(having(1, place(0, 9, 5, 3, 2))), numbers(1, 2), 0, true, api.OK}, // the carrier comes from 10 to 15
		{example(leaving(10, 80)), numbers(1, 2), 0, false, api.ErrNone}, {example(leaving(11, 80)), numbers(1, 2), 1, false, api.OK}, {example(leaving(20, 80)), numbers(1, 2), 1, false, api.OK}, {example(leaving(21, 80)), numbers(1, 2), 1, true, api.OK},
		{example(leaving(0, 60)), numbers(1, 2), 0, false, api.ErrNone}, {example(leaving(0, 59)), numbers(1, 2), 2, true, api.OK}, {example(holding(7), leaving(0, 69)), numbers(2, 1), 2, false, api.OK}, {example(holding(7), leaving(0, 60)), numbers(2, 1), 2, false, api.OK}, {example(holding(7), leaving(0, 59)), numbers(2, 1), 2, true, api.OK}, {example(leaving(0, 35)), numbers(1), 0, false, api.ErrNone}, {example(leaving(0, 34)), numbers(1), 1, false, api.OK}, {example(leaving(0, 24)), numbers(1), 1, true, api.OK}, // late at home
		{example(having(1, place(0, 14, 5, 3, 2)), holding(3)), numbers(1), 0, false, api.OK}, {example(having(1, place(0, 14, 5, 3, 2)), holding(3)), numbers(1, 2), 0, true, api.OK}, {example(having(1, place(0, 14, 5, 3, 2)), holding(5)), numbers(1, 2), 0, false, api.OK}, // a road can be wrong for both; the first one tells whether it surely is
		{example(having(2, place(30, 20, 10, 1, 4))), numbers(2), 0, false, api.ErrNone}, {example(having(2, place(30, 19, 10, 1, 4))), numbers(2), 0, true, api.OK}, // who waits has come in time
	} {
		if at, surely, e := round.Fault(c.t, c.order); at != c.at || surely != c.surely || e != c.e {
			t.Error(i, at, surely, e)
		}
	}
}

// threeInTurn is a task whose roads are short only from each outworker to the next one, so that rounds of some are slower than one of all.
func threeInTurn(back int) api.RoundTask {
	return with(even(at(50), free(), free(), free()), taking(0, 1, at(1)), taking(1, 2, at(1)), taking(2, 3, at(1)), taking(3, 0, at(1)), leaving(0, back))
}

// P10.5
func TestBest(t *testing.T) {
	for i, c := range []struct {
		t    api.RoundTask
		want []int
		e    api.Errno
	}{
		{example(), numbers(1, 2), api.OK}, {example(holding(5)), nil, api.ErrState}, {example(holding(7)), numbers(1, 2), api.OK}, // example 3
		{even(at(0)), nil, api.OK}, {with(even(at(0)), leaving(5000, 5000)), nil, api.OK}, {even(at(5), free()), numbers(1), api.OK}, {with(even(at(5), free()), leaving(0, 9)), nil, api.ErrState}, {with(even(at(5), free()), leaving(0, 10)), numbers(1), api.OK},
		{example(holding(7), having(1, place(0, 14, 5, 3, 2))), nil, api.ErrState}, {example(holding(7), having(1, place(50, 60, 5, 3, 2))), numbers(2, 1), api.OK}, {example(having(1, place(50, 60, 5, 3, 2))), nil, api.ErrState},
		{even(at(5), free(), free(), free()), numbers(1, 2, 3), api.OK}, {even(at(5), free(), free(), place(0, 5, 0, 0, 0)), numbers(3, 1, 2), api.OK}, {even(at(5), place(0, 5000, 0, 0, 9), free(), place(0, 5, 0, 0, 0)), numbers(3, 1, 2), api.OK}, // the smallest list of several
		{with(even(at(5), free(), free()), taking(0, 1, to(0, 6))), numbers(2, 1), api.OK}, {with(even(at(5), free(), free()), taking(0, 1, to(0, 5))), numbers(1, 2), api.OK}, {with(even(at(5), free(), free()), taking(0, 1, to(5, 9)), taking(0, 2, at(8))), numbers(2, 1), api.OK}, // at the latest
		{threeInTurn(4), numbers(1, 2, 3), api.OK}, {threeInTurn(3), nil, api.ErrState},
	} {
		if l, e := round.Best(c.t); !slices.Equal(l, c.want) || e != c.e {
			t.Error(i, l, e)
		}
	}
}

// P10.6, P10.7 and P10.8
func TestMostDaysAndAgainst(t *testing.T) {
	heavy := func(dozens ...int) api.RoundTask {
		var l []api.RoundPlace
		for _, n := range dozens {
			l = append(l, place(0, 5000, 0, n, 0))
		}
		return with(even(at(1), l...), holding(10))
	}
	for i, c := range []struct {
		t       api.RoundTask
		most    []int
		days    []int
		e       api.Errno // of Days
		against []int
		f       api.Errno // of Against
	}{
		{example(), numbers(1, 2), numbers(0, 0), api.OK, nil, api.ErrNone}, {example(holding(5)), numbers(1), numbers(0, 1), api.OK, numbers(1, 2), api.OK}, // example 3
		{even(at(0)), nil, nil, api.OK, nil, api.ErrNone}, {even(at(5), free()), numbers(1), numbers(0), api.OK, nil, api.ErrNone}, {with(even(at(5), free()), leaving(0, 9)), nil, nil, api.ErrState, numbers(1), api.OK},
		{example(holding(3)), numbers(1), nil, api.ErrState, numbers(2), api.OK}, {example(holding(2)), nil, nil, api.ErrState, numbers(1), api.OK}, {example(having(1, place(0, 9, 5, 3, 2))), numbers(2), nil, api.ErrState, numbers(1), api.OK},
		{heavy(4, 4, 4), numbers(1, 2), numbers(0, 0, 1), api.OK, numbers(1, 2, 3), api.OK}, {heavy(4, 8, 4), numbers(1, 3), numbers(0, 1, 0), api.OK, numbers(1, 2), api.OK}, {heavy(8, 4, 4), numbers(2, 3), numbers(0, 1, 1), api.OK, numbers(1, 2), api.OK}, {heavy(8, 1, 4, 4), numbers(2, 3, 4), numbers(0, 0, 1, 1), api.OK, numbers(1, 3), api.OK}, {heavy(3, 3, 3, 3), numbers(1, 2, 3), numbers(0, 0, 0, 1), api.OK, numbers(1, 2, 3, 4), api.OK}, {heavy(8, 8, 8, 11), numbers(1), nil, api.ErrState, numbers(4), api.OK}, {heavy(6, 6, 6), numbers(1), numbers(0, 1, 2), api.OK, numbers(1, 2), api.OK}, {heavy(5, 5, 5, 5, 5, 5, 5), numbers(1, 2), numbers(0, 0, 1, 1, 2, 2, 3), api.OK, numbers(1, 2, 3), api.OK}, {heavy(6, 6, 6, 6, 6, 6, 6), numbers(1), numbers(0, 1, 2, 3, 4, 5, 6), api.OK, numbers(1, 2), api.OK}, {heavy(7, 6, 5, 4, 3), numbers(1, 5), numbers(0, 1, 2, 1, 0), api.OK, numbers(1, 2), api.OK}, {heavy(6, 1, 1, 7, 3), numbers(1, 2, 3), numbers(0, 0, 0, 1, 1), api.OK, numbers(1, 4), api.OK}, // the smallest list of several
		{threeInTurn(4), numbers(1, 2, 3), numbers(0, 0, 0), api.OK, nil, api.ErrNone}, {threeInTurn(3), nil, nil, api.ErrState, numbers(1), api.OK}, {with(threeInTurn(51), taking(2, 0, at(1))), numbers(1, 2, 3), numbers(0, 0, 0), api.OK, nil, api.ErrNone}, // a road by way of another one
		{with(even(at(50), free(), free(), free()), taking(0, 1, at(1)), taking(1, 2, at(1)), taking(2, 0, at(1)), taking(0, 3, at(1)), taking(3, 0, at(1)), leaving(0, 3)), numbers(1, 2), numbers(0, 0, 1), api.OK, numbers(1), api.OK}, // 1 is served with 2 only
	} {
		if l, e := round.Most(c.t); !slices.Equal(l, c.most) || e != api.OK {
			t.Error(i, l, e)
		}
		if l, e := round.Days(c.t); !slices.Equal(l, c.days) || e != c.e {
			t.Error(i, l, e)
		}
		if l, e := round.Against(c.t); !slices.Equal(l, c.against) || e != c.f {
			t.Error(i, l, e)
		}
	}
}

// P10.9
func TestLate(t *testing.T) {
	for i, c := range []struct {
		t     api.RoundTask
		order []int
		want  int
		e     api.Errno
	}{
		{example(), numbers(1, 2), 10, api.OK}, {example(leaving(10, 80)), numbers(1, 2), 0, api.OK}, {example(leaving(11, 80)), numbers(1, 2), 0, api.ErrState}, {example(leaving(4, 80)), numbers(1, 2), 6, api.OK}, // example 4
		{example(), nil, 80, api.OK}, {example(leaving(80, 80)), nil, 0, api.OK}, {example(leaving(7, 80)), nil, 73, api.OK}, {even(at(0)), nil, 5000, api.OK}, {with(even(at(0)), leaving(5000, 5000)), nil, 0, api.OK}, // a round of none
		{example(), numbers(1), 45, api.OK}, {example(), numbers(2), 20, api.OK}, {example(leaving(0, 60)), numbers(1, 2), 0, api.OK}, {example(leaving(0, 65)), numbers(1, 2), 5, api.OK}, {example(leaving(0, 59)), numbers(1, 2), 0, api.ErrState}, {example(), numbers(2, 1), 0, api.ErrState}, {example(holding(7)), numbers(2, 1), 20, api.OK}, {example(holding(2)), numbers(1), 0, api.ErrState},
		{even(at(0), free(), free()), numbers(2, 1), 5000, api.OK}, {with(even(at(0), free()), leaving(1, 5000)), numbers(1), 4999, api.OK}, {even(at(0), place(0, 4999, 0, 0, 0)), numbers(1), 4999, api.OK}, {even(at(600), place(5000, 5000, 0, 0, 0)), numbers(1), 0, api.ErrState}, {even(at(600), place(4400, 5000, 0, 0, 0)), numbers(1), 3800, api.OK}, {with(even(to(0, 600), free()), taking(1, 0, at(0))), numbers(1), 4400, api.OK},
	} {
		if n, e := round.Late(c.t, c.order); n != c.want || e != c.e {
			t.Error(i, n, e)
		}
	}
}

// P10.10
func TestWhere(t *testing.T) {
	doubtful := with(even(to(2, 9), free(), free(), free()), leaving(10, 5000))
	for i, c := range []struct {
		t     api.RoundTask
		order []int
		time  int
		want  []int
	}{
		{example(), numbers(1, 2), 15, numbers(1)}, {example(), numbers(1, 2), 12, numbers(0)}, // example 5
		{example(), numbers(1, 2), 0, numbers(0)}, {example(leaving(1, 80)), numbers(1, 2), 0, nil}, {example(leaving(1, 80)), numbers(1, 2), 1, numbers(0)}, {example(), numbers(1, 2), 14, numbers(0)}, {example(), numbers(1, 2), 29, numbers(1)}, {example(), numbers(1, 2), 30, nil}, {example(), numbers(1, 2), 39, nil}, {example(), numbers(1, 2), 40, numbers(2)}, {example(), numbers(1, 2), 59, numbers(2)}, {example(), numbers(1, 2), 60, nil}, {example(), numbers(1, 2), 5000, nil}, {example(), nil, 0, nil}, {example(), nil, 80, nil}, // at the end of a road the carrier is there no more
		{doubtful, numbers(3, 1, 2), 9, nil}, {doubtful, numbers(3, 1, 2), 10, numbers(0)}, {doubtful, numbers(3, 1, 2), 11, numbers(0)}, {doubtful, numbers(3, 1, 2), 12, numbers(0, 1)}, {doubtful, numbers(3, 1, 2), 16, numbers(0, 1, 2, 3)}, {doubtful, numbers(3, 1, 2), 18, numbers(0, 1, 2, 3)}, {doubtful, numbers(3, 1, 2), 19, numbers(1, 2, 3)}, {doubtful, numbers(3, 1, 2), 28, numbers(2, 3)}, {doubtful, numbers(3, 1, 2), 45, numbers(3)}, {doubtful, numbers(3, 1, 2), 46, nil},
		{even(at(0), free()), numbers(1), 0, nil}, {with(doubtful, taking(3, 1, at(0))), numbers(3, 1, 2), 14, numbers(0, 2, 3)}, {with(doubtful, taking(3, 1, to(0, 1))), numbers(3, 1, 2), 14, numbers(0, 1, 2, 3)}, {with(doubtful, taking(3, 1, to(0, 1))), numbers(3, 1, 2), 19, numbers(1, 2, 3)}, {with(doubtful, taking(3, 1, at(1))), numbers(3, 1, 2), 19, numbers(1, 2, 3)}, {with(doubtful, taking(3, 1, at(1))), numbers(3, 1, 2), 20, numbers(2, 3)}, // nobody is on a road of no minutes
		{even(at(600), place(5000, 5000, 0, 0, 0)), numbers(1), 4999, nil}, {even(at(600), place(5000, 5000, 0, 0, 0)), numbers(1), 5000, numbers(1)}, {even(at(600), place(0, 0, 0, 0, 0)), numbers(1), 600, numbers(1)}, {even(at(600), place(0, 0, 1, 0, 0)), numbers(1), 600, nil}, {even(at(600), place(0, 0, 1, 0, 0)), numbers(1), 599, numbers(0)}, {even(at(600), place(5000, 5000, 1, 0, 0)), numbers(1), 5000, nil},
	} {
		if l, e := round.Where(c.t, c.order, c.time); !slices.Equal(l, c.want) || e != api.OK {
			t.Error(i, l, e)
		}
	}
}

// P10.11
func TestWorth(t *testing.T) {
	for i, c := range []struct {
		t              api.RoundTask
		order          []int
		place, minutes int
		e              api.Errno
	}{
		{example(), numbers(1, 2), 2, 25, api.OK}, // example 5
		{example(), nil, 0, 0, api.ErrNone}, {example(), numbers(1), 1, 35, api.OK}, {example(), numbers(2), 2, 60, api.OK}, {example(), numbers(2, 1), 2, 35, api.OK}, {example(leaving(7, 80)), numbers(1), 1, 35, api.OK}, {example(leaving(15, 80)), numbers(2), 2, 50, api.OK},
		{even(at(5), free(), free(), free()), numbers(3, 1, 2), 3, 5, api.OK}, {even(at(5), free(), place(0, 0, 9, 0, 0), free()), numbers(3, 1, 2), 2, 14, api.OK}, {even(to(1, 5), free(), place(0, 0, 9, 0, 0), place(0, 0, 9, 0, 0)), numbers(3, 1, 2), 3, 14, api.OK}, // the first one of several
		{threeInTurn(4), numbers(1, 2, 3), 1, -48, api.OK}, {with(threeInTurn(4), taking(1, 3, at(9))), numbers(1, 2, 3), 2, -7, api.OK}, {with(threeInTurn(4), taking(1, 3, at(2))), numbers(1, 2, 3), 2, 0, api.OK}, // it would be later, or not earlier
		{even(at(5), place(90, 0, 0, 0, 0), place(80, 0, 0, 0, 0)), numbers(1, 2), 1, 15, api.OK}, {even(at(5), place(90, 0, 0, 0, 0), place(90, 0, 0, 0, 0)), numbers(2, 1), 2, 5, api.OK}, {even(at(5), place(80, 0, 0, 0, 0), place(90, 0, 0, 0, 0)), numbers(2, 1), 2, 15, api.OK},
		{with(even(at(5), free(), free()), taking(0, 1, to(0, 9)), taking(0, 2, at(8)), taking(1, 0, at(7))), numbers(1, 2), 1, 6, api.OK}, // at the latest
	} {
		if p, minutes, e := round.Worth(c.t, c.order); p != c.place || minutes != c.minutes || e != c.e {
			t.Error(i, p, minutes, e)
		}
	}
}
