package outwork_test

import (
	"math"
	"slices"
	"testing"

	"panache/api"
	"panache/outwork"
)

// errorsOf returns the errors of all functions with a book, of which those with other arguments have wrong ones.
func errorsOf(h api.OutworkHouse, b []api.OutworkEntry) []api.Errno {
	_, a := outwork.Has(h, b, -1)
	_, _, c := outwork.Kept(h, b, -1)
	_, _, _, d := outwork.Lies(h, b, -1)
	_, _, e := outwork.Fans(h, b, -1)
	_, f := outwork.Wrong(h, b)
	_, g := outwork.Blame(h, b)
	_, _, i := outwork.Weigh(h, b, -1)
	_, j := outwork.Settle(h, b, -1)
	_, k := outwork.Moved(h, b)
	return []api.Errno{outwork.Check(h, b), a, c, d, e, f, g, i, j, k}
}

// P7.1: the errors of a house, which Give has, too.
func TestCheckHouse(t *testing.T) {
	fine, five := spans(to(1, 2), to(3, 3)), slices.Repeat(spans(to(0, 0)), 5)
	for i, c := range []struct {
		h api.OutworkHouse
		e api.Errno
	}{
		{example(), api.OK}, {house(0, fine, 0, 0), api.OK}, {house(100, fine, 1000, 0), api.OK}, {house(0, spans(to(0, 1000)), 1000), api.OK}, {house(0, five[:4], 0, 0, 0, 0), api.OK},
		{house(-1, fine, 0, 0), api.ErrRange}, {house(101, fine, 0, 0), api.ErrRange}, {house(math.MinInt, fine, 0, 0), api.ErrRange}, {house(math.MaxInt, fine, 0, 0), api.ErrRange},
		{house(0, nil), api.ErrForm}, {house(0, five, 0, 0, 0, 0, 0), api.ErrForm}, {house(0, fine, 0), api.ErrForm}, {house(0, fine, 0, 0, 0), api.ErrForm}, {house(0, fine), api.ErrForm}, {house(0, nil, 0), api.ErrForm}, {house(0, five[:4], 0, 0, 0, 0, 0), api.ErrForm},
		{house(0, spans(to(2, 1)), 0), api.ErrArg}, {house(0, spans(to(-1, 1)), 0), api.ErrArg}, {house(0, spans(to(0, 1001)), 0), api.ErrArg}, {house(0, spans(to(1, 1), to(4, 3)), 0, 0), api.ErrArg}, {house(0, spans(to(math.MinInt, math.MaxInt)), 0), api.ErrArg}, {house(0, fine, 0, -1), api.ErrArg}, {house(0, fine, 1001, 0), api.ErrArg}, {house(0, fine, 0, math.MaxInt), api.ErrArg},
		{house(-1, nil), api.ErrRange}, {house(101, spans(to(2, 1)), 1001), api.ErrRange}, {house(0, spans(to(2, 1)), 0, 0), api.ErrForm}, {house(0, slices.Repeat(spans(to(2, 1)), 5), 0, 0, 0, 0, 0), api.ErrForm}, // the error that is named first
	} {
		if e := outwork.Check(c.h, nil); e != c.e {
			t.Error(i, e)
		}
		if l, e := outwork.Give(c.h, 0); e != c.e || len(l) != 0 && e != api.OK {
			t.Error(i, l, e)
		}
		if l := errorsOf(c.h, slices.Repeat(book(out(9, 9, -1)), 13)); c.e != api.OK && slices.ContainsFunc(l, func(e api.Errno) bool { return e != c.e }) {
			t.Error(i, l)
		}
		if l, e := outwork.Give(c.h, -1); c.e != api.OK && e != c.e || c.e == api.OK && e != api.ErrTwice || len(l) != 0 {
			t.Error(i, l, e)
		}
	}
}

// P7.1: the errors of a book.
func TestCheckBook(t *testing.T) {
	kind := func(kind api.OutworkKind) api.OutworkEntry { return api.OutworkEntry{Kind: kind} }
	// The house has two stuffs.
	for i, c := range []struct {
		b []api.OutworkEntry
		e api.Errno
	}{
		{nil, api.OK}, {exampleBook(), api.OK}, {slices.Repeat(book(out(0, 0, 0)), 12), api.OK}, {slices.Repeat(book(out(0, 0, 0)), 13), api.ErrLong},
		{book(out(5, 1, 100000), out(5, 0, 100000), back(5, 1, 100000), done(5, 500)), api.OK}, {book(out(0, 0, 0), back(0, 0, 0), done(0, 0)), api.OK},
		{book(out(-1, 0, 0)), api.ErrNone}, {book(out(6, 0, 0)), api.ErrNone}, {book(back(6, 0, 0)), api.ErrNone}, {book(done(6, 0)), api.ErrNone}, {book(done(-1, 0)), api.ErrNone}, {book(out(math.MinInt, 0, 0)), api.ErrNone}, {book(out(math.MaxInt, 0, 0)), api.ErrNone},
		{book(kind(0)), api.ErrNone}, {book(kind(4)), api.ErrNone}, {book(kind(-1)), api.ErrNone}, {book(kind(math.MinInt)), api.ErrNone}, {book(kind(math.MaxInt)), api.ErrNone}, {book(out(0, 0, 0), out(0, 0, 0), kind(0)), api.ErrNone},
		{book(out(0, -1, 0)), api.ErrNone}, {book(out(0, 2, 0)), api.ErrNone}, {book(back(0, -1, 0)), api.ErrNone}, {book(back(0, 2, 0)), api.ErrNone}, {book(out(0, math.MaxInt, 0)), api.ErrNone}, {book(back(0, math.MinInt, 0)), api.ErrNone},
		{book(api.OutworkEntry{Kind: api.OutworkDone, Stuff: 1}), api.ErrNone}, {book(api.OutworkEntry{Kind: api.OutworkDone, Stuff: -1}), api.ErrNone},
		{book(out(0, 0, -1)), api.ErrFull}, {book(out(0, 0, 100001)), api.ErrFull}, {book(out(0, 0, 9), back(0, 0, -1)), api.ErrFull}, {book(out(0, 0, 9), back(0, 0, 100001)), api.ErrFull}, {book(done(0, -1)), api.ErrFull}, {book(done(0, 501)), api.ErrFull}, {book(out(0, 0, math.MinInt)), api.ErrFull}, {book(out(0, 0, math.MaxInt)), api.ErrFull}, {book(done(0, math.MaxInt)), api.ErrFull},
		{slices.Repeat(book(out(9, 0, -1)), 13), api.ErrLong}, {book(out(9, 0, -1)), api.ErrNone}, {book(out(0, 0, -1), out(9, 0, 0)), api.ErrNone}, {book(done(0, 501), kind(7)), api.ErrNone}, // the error that is named first, whichever entry has it
	} {
		l := errorsOf(example(), c.b)
		if l[0] != c.e {
			t.Error(i, l[0])
		}
		if c.e != api.OK && slices.ContainsFunc(l, func(e api.Errno) bool { return e != c.e }) {
			t.Error(i, l)
		}
	}
	// The stuff 1 is none of a house with one.
	one := house(0, spans(to(0, 0)), 0)
	for i, b := range [][]api.OutworkEntry{book(out(0, 1, 0)), book(back(0, 1, 0))} {
		if e := outwork.Check(one, b); e != api.ErrNone {
			t.Error(i, e)
		}
	}
}

// P7.1: what comes after the errors of Check.
func TestErrorsAfterCheck(t *testing.T) {
	// Check, Has, Kept, Lies, Fans, Wrong, Blame, Weigh, Settle, Moved
	if l, want := errorsOf(example(), exampleWrong()), []api.Errno{0, api.ErrState, api.ErrState, api.ErrState, api.ErrState, 0, 0, api.ErrState, api.ErrState, 0}; !slices.Equal(l, want) {
		t.Error(l)
	}
	if l, want := errorsOf(example(), exampleBook()), []api.Errno{0, api.ErrTwice, api.ErrTwice, api.ErrTwice, api.ErrTwice, api.ErrTwice, 0, api.ErrTwice, api.ErrTwice, 0}; !slices.Equal(l, want) {
		t.Error(l)
	}
	h, b := example(), exampleBook()
	for _, n := range []int{math.MinInt, -1, 0, 1, 2, 5, 6, 500, 501, 100000, 100001, math.MaxInt} {
		want := func(most int) api.Errno {
			if n < 0 || n > most {
				return api.ErrTwice
			}
			return api.OK
		}
		_, has := outwork.Has(h, b, n)
		_, _, kept := outwork.Kept(h, b, n)
		_, _, _, lies := outwork.Lies(h, b, n)
		_, _, fans := outwork.Fans(h, b, n)
		_, _, weigh := outwork.Weigh(h, b, n)
		_, settle := outwork.Settle(h, b, n)
		_, give := outwork.Give(h, n)
		if has != want(5) || kept != want(100000) || lies != want(1) || fans != want(5) || weigh != want(1) || settle != want(5) || give != want(500) {
			t.Error(n, has, kept, lies, fans, weigh, settle, give)
		}
	}
}

// P7.2
func TestHas(t *testing.T) {
	one := func(scales, low, high, lost int) api.OutworkHouse { return house(scales, spans(to(low, high)), lost) }
	for i, c := range []struct {
		h      api.OutworkHouse
		b      []api.OutworkEntry
		worker int
		want   []api.Span
	}{
		{example(), exampleBook(), 0, spans(to(0, 44), to(48, 52))}, {example(), exampleBook(), 1, spans(to(44, 52), to(0, 0))}, {example(), exampleBook(), 2, spans(to(0, 0), to(0, 0))}, // example 1
		{example(), nil, 5, spans(to(0, 0), to(0, 0))}, {example(), book(out(0, 0, 200)), 0, spans(to(179, 202), to(0, 0))},
		{one(0, 0, 0, 0), book(out(2, 0, 7)), 2, spans(to(7, 7))}, {one(3, 0, 0, 0), book(out(2, 0, 7)), 2, spans(to(4, 10))}, {one(3, 0, 0, 0), book(out(2, 0, 2)), 2, spans(to(0, 5))}, {one(3, 0, 0, 0), book(out(2, 0, 2), out(2, 0, 2), out(2, 0, 9)), 2, spans(to(6, 22))}, // no weight is below 0
		{one(3, 0, 0, 0), book(out(2, 0, 20), back(2, 0, 1)), 2, spans(to(13, 23))}, {one(3, 0, 0, 0), book(out(2, 0, 20), back(2, 0, 1), back(2, 0, 4)), 2, spans(to(6, 22))}, {one(0, 0, 0, 0), book(out(2, 0, 20), back(2, 0, 20)), 2, spans(to(0, 0))}, {one(2, 0, 0, 0), book(out(2, 0, 20), back(2, 0, 24)), 2, spans(to(0, 0))},
		{one(2, 0, 0, 0), book(back(2, 0, 2)), 2, spans(to(0, 0))}, {one(2, 0, 0, 0), book(back(2, 0, 2), out(2, 0, 5)), 2, spans(to(0, 7))}, // what was earlier does not matter
		{one(0, 3, 4, 0), book(out(2, 0, 20), done(2, 2)), 2, spans(to(12, 14))}, {one(0, 3, 4, 0), book(done(2, 2), out(2, 0, 6), done(2, 0)), 2, spans(to(0, 0))}, {one(0, 3, 4, 0), book(done(2, 1), out(2, 0, 20), done(2, 2)), 2, spans(to(8, 11))}, {one(0, 0, 4, 0), book(done(2, 500)), 2, spans(to(0, 0))},
		{one(0, 0, 0, 100), book(out(2, 0, 9)), 2, spans(to(9, 9))}, {one(0, 0, 0, 100), book(out(2, 0, 10)), 2, spans(to(9, 10))}, {one(0, 0, 0, 100), book(out(2, 0, 9), out(2, 0, 9)), 2, spans(to(17, 18))}, {one(0, 0, 0, 1000), book(out(2, 0, 9)), 2, spans(to(0, 9))}, {one(0, 0, 0, 999), book(out(2, 0, 9)), 2, spans(to(1, 9))}, {one(1, 0, 0, 100), book(out(2, 0, 10)), 2, spans(to(9, 11))}, {one(1, 0, 0, 100), book(out(2, 0, 11)), 2, spans(to(9, 12))}, // of all that was given out, rounded down
		{one(0, 1, 1, 0), book(out(2, 0, 9), out(3, 0, 5), done(3, 4)), 2, spans(to(9, 9))}, {one(0, 1, 1, 0), book(out(2, 0, 9), out(3, 0, 5), done(3, 4)), 3, spans(to(1, 1))}, // each of his own
		{house(0, spans(to(1, 2), to(0, 3), to(2, 2), to(0, 0)), 0, 0, 500, 1000), book(out(4, 0, 9), out(4, 1, 9), out(4, 2, 9), out(4, 3, 9), done(4, 2)), 4, spans(to(5, 7), to(3, 9), to(1, 5), to(0, 9))},
		{one(100, 0, 0, 0), slices.Repeat(book(out(0, 0, 100000)), 12), 0, spans(to(1198800, 1201200))}, {one(0, 1000, 1000, 0), append(slices.Repeat(book(out(0, 0, 100000)), 10), done(0, 500), done(0, 500)), 0, spans(to(0, 0))},
	} {
		if l, e := outwork.Has(c.h, c.b, c.worker); !slices.Equal(l, c.want) || e != api.OK {
			t.Error(i, l, e)
		}
	}
}

// P7.1 and P7.2: books that have just a truth, and those that have none.
func TestNoTruth(t *testing.T) {
	h := house(2, spans(to(3, 4), to(1, 1)), 500, 0)
	for i, c := range []struct {
		b []api.OutworkEntry
		e api.Errno
	}{
		{nil, api.OK}, {book(back(0, 0, 2)), api.OK}, {book(back(0, 0, 3)), api.ErrState}, {book(out(0, 0, 0), back(0, 0, 4)), api.OK}, {book(out(0, 0, 0), back(0, 0, 5)), api.ErrState}, {book(done(0, 1)), api.ErrState}, {book(done(0, 0)), api.OK},
		{book(out(0, 0, 10), out(0, 1, 10), done(0, 4)), api.OK}, {book(out(0, 0, 10), out(0, 1, 10), done(0, 5)), api.ErrState}, {book(out(0, 0, 13), out(0, 1, 10), done(0, 5)), api.OK}, {book(out(0, 0, 13), out(0, 1, 2), done(0, 5)), api.ErrState}, {book(out(0, 0, 13), out(0, 1, 3), done(0, 5)), api.OK}, {book(out(0, 0, 13), done(0, 5)), api.ErrState}, // fans take of all stuffs
		{book(out(0, 0, 90), back(5, 0, 3)), api.ErrState}, {book(out(5, 0, 90), back(5, 1, 3)), api.ErrState}, {book(out(5, 0, 1), back(5, 0, 3)), api.OK}, // of another worker, or another stuff
	} {
		if _, e := outwork.Has(h, c.b, 0); e != c.e {
			t.Error(i, e)
		}
		if e := outwork.Check(h, c.b); e != api.OK {
			t.Error(i, e)
		}
	}
}

// P7.3
func TestKept(t *testing.T) {
	h := house(1, spans(to(0, 0), to(0, 0)), 0, 0)
	b := book(out(5, 0, 20), out(5, 1, 30), out(2, 1, 30), out(0, 0, 8), back(0, 0, 8))
	for i, c := range []struct {
		h                api.OutworkHouse
		b                []api.OutworkEntry
		limit            int
		surely, possibly []int
	}{
		{example(), exampleBook(), 45, numbers(0), numbers(0, 1)}, {example(), exampleBook(), 43, numbers(0, 1), numbers(0, 1)}, {example(), exampleBook(), 44, numbers(0), numbers(0, 1)}, {example(), exampleBook(), 47, numbers(0), numbers(0, 1)}, {example(), exampleBook(), 48, nil, numbers(0, 1)}, {example(), exampleBook(), 51, nil, numbers(0, 1)}, {example(), exampleBook(), 52, nil, nil}, // example 2
		{h, b, 0, numbers(2, 5), numbers(0, 2, 5)}, {h, b, 1, numbers(2, 5), numbers(0, 2, 5)}, {h, b, 2, numbers(2, 5), numbers(2, 5)}, {h, b, 19, numbers(2, 5), numbers(2, 5)}, {h, b, 28, numbers(2, 5), numbers(2, 5)}, {h, b, 29, nil, numbers(2, 5)}, {h, b, 31, nil, nil}, {h, b, 100000, nil, nil}, {h, nil, 0, nil, nil},
		{h, slices.Repeat(book(out(3, 0, 100000)), 2), 100000, numbers(3), numbers(3)}, {h, book(out(3, 0, 100000)), 100000, nil, numbers(3)},
		{house(0, spans(to(0, 0), to(0, 0)), 1000, 1000), book(out(1, 0, 9), out(1, 1, 9)), 0, nil, numbers(1)}, // both can be lost at once
	} {
		if surely, possibly, e := outwork.Kept(c.h, c.b, c.limit); !slices.Equal(surely, c.surely) || !slices.Equal(possibly, c.possibly) || e != api.OK {
			t.Error(i, surely, possibly, e)
		}
	}
}

// P7.4
func TestLies(t *testing.T) {
	one := func(scales, low, high, lost int) api.OutworkHouse { return house(scales, spans(to(low, high)), lost) }
	for i, c := range []struct {
		h                api.OutworkHouse
		b                []api.OutworkEntry
		stuff            int
		home, fans, lost api.Span
	}{
		{example(), exampleBook(), 0, to(44, 96), to(100, 120), to(0, 25)}, {example(), exampleBook(), 1, to(48, 52), to(50, 50), to(0, 0)}, // example 2
		{example(), nil, 1, to(0, 0), to(0, 0), to(0, 0)}, {one(0, 1, 9, 0), book(out(1, 0, 5), done(1, 2)), 0, to(0, 3), to(2, 5), to(0, 0)}, {one(2, 1, 9, 0), book(out(1, 0, 5), done(1, 2), back(1, 0, 3)), 0, to(0, 4), to(2, 6), to(0, 0)}, // no more is in fans than there can be
		{one(0, 0, 0, 500), book(out(1, 0, 9), back(1, 0, 6)), 0, to(0, 3), to(0, 0), to(0, 3)}, {one(0, 1, 2, 500), book(out(1, 0, 9), done(1, 6)), 0, to(0, 3), to(6, 9), to(0, 3)}, {one(0, 1, 2, 300), book(out(1, 0, 10), done(1, 6)), 0, to(0, 4), to(6, 10), to(0, 3)}, // nor lost
		{one(0, 1, 2, 100), book(out(1, 0, 19), out(2, 0, 19), done(1, 1)), 0, to(34, 37), to(1, 2), to(0, 2)}, {one(1, 0, 0, 100), book(out(1, 0, 19), out(2, 0, 19)), 0, to(34, 40), to(0, 0), to(0, 4)}, // each worker's loss is rounded down
		{one(1, 0, 0, 0), book(out(0, 0, 9), out(1, 0, 9), out(5, 0, 9), back(5, 0, 9)), 0, to(16, 22), to(0, 0), to(0, 0)},
	} {
		home, fans, lost, e := outwork.Lies(c.h, c.b, c.stuff)
		if home != c.home || fans != c.fans || lost != c.lost || e != api.OK {
			t.Error(i, home, fans, lost, e)
		}
	}
}

// P7.5
func TestFans(t *testing.T) {
	for i, c := range []struct {
		h                api.OutworkHouse
		b                []api.OutworkEntry
		worker           int
		surely, possibly int
	}{
		{example(), exampleBook(), 0, 0, 4}, {example(), exampleBook(), 1, 0, 0}, {example(), nil, 3, 0, 0}, // example 2
		{house(0, spans(to(3, 4)), 0), book(out(2, 0, 12)), 2, 3, 4}, {house(0, spans(to(3, 4)), 0), book(out(2, 0, 11)), 2, 2, 3}, {house(1, spans(to(3, 4)), 0), book(out(2, 0, 11)), 2, 2, 4}, {house(0, spans(to(3, 4)), 0), book(out(2, 0, 12)), 1, 0, 0},
		{house(0, spans(to(0, 0)), 0), nil, 2, 500, 500}, {house(0, spans(to(0, 1)), 0), nil, 2, 0, 500}, {house(0, spans(to(0, 1)), 0), book(out(2, 0, 7)), 2, 7, 500}, {house(0, spans(to(0, 0), to(5, 5)), 0, 0), book(out(2, 1, 44)), 2, 8, 8},
		{house(0, spans(to(1, 1)), 0), book(out(2, 0, 500)), 2, 500, 500}, {house(0, spans(to(1, 1)), 0), book(out(2, 0, 501)), 2, 500, 500}, {house(0, spans(to(1, 2)), 0), book(out(2, 0, 998)), 2, 499, 500}, {house(0, spans(to(1, 1)), 0), book(out(2, 0, 100000)), 2, 500, 500},
		{house(0, spans(to(2, 3), to(4, 4)), 0, 0), book(out(0, 0, 30), out(0, 1, 30)), 0, 7, 7}, {house(0, spans(to(2, 5), to(4, 4)), 0, 0), book(out(0, 0, 30), out(0, 1, 30)), 0, 6, 7}, {house(0, spans(to(4, 4), to(2, 5)), 0, 500), book(out(0, 0, 30), out(0, 1, 30)), 0, 3, 7},
	} {
		if surely, possibly, e := outwork.Fans(c.h, c.b, c.worker); surely != c.surely || possibly != c.possibly || e != api.OK {
			t.Error(i, surely, possibly, e)
		}
	}
}

// P7.6
func TestGive(t *testing.T) {
	one := func(scales, low, high, lost int) api.OutworkHouse { return house(scales, spans(to(low, high)), lost) }
	for i, c := range []struct {
		h    api.OutworkHouse
		fans int
		want []int
		e    api.Errno
	}{
		{example(), 10, numbers(135, 52), api.OK}, {example(), 0, numbers(0, 0), api.OK}, {example(), 1, numbers(15, 7), api.OK}, // example 3
		{one(2, 0, 0, 1000), 500, numbers(0), api.OK}, {one(2, 0, 1, 1000), 1, nil, api.ErrNone}, {one(2, 0, 1, 1000), 0, numbers(0), api.OK}, {one(0, 0, 1, 999), 1, numbers(1), api.OK}, {one(0, 0, 2, 999), 1, numbers(1001), api.OK}, {one(0, 0, 100, 999), 1, numbers(99001), api.OK}, {one(0, 0, 101, 999), 1, nil, api.ErrNone},
		{one(0, 1, 9, 500), 1, numbers(17), api.OK}, {one(0, 1, 9, 0), 1, numbers(9), api.OK}, {one(100, 1, 9, 0), 1, numbers(109), api.OK},
		{one(0, 1, 200, 0), 500, numbers(100000), api.OK}, {one(1, 1, 200, 0), 500, nil, api.ErrNone}, {one(0, 1, 201, 0), 500, nil, api.ErrNone}, {one(100, 1, 999, 0), 100, numbers(100000), api.OK}, {one(100, 1, 1000, 0), 100, nil, api.ErrNone}, {one(0, 1000, 1000, 0), 500, nil, api.ErrNone},
		{house(0, spans(to(1, 1), to(1000, 1000)), 0, 0), 101, nil, api.ErrNone}, {house(0, spans(to(1000, 1000), to(1, 1)), 0, 0), 101, nil, api.ErrNone}, {house(0, spans(to(1, 1), to(0, 0), to(2, 3), to(0, 4)), 0, 0, 0, 0), 5, numbers(5, 0, 15, 20), api.OK},
	} {
		if l, e := outwork.Give(c.h, c.fans); !slices.Equal(l, c.want) || e != c.e {
			t.Error(i, l, e)
		}
	}
}

// P7.7
func TestWrong(t *testing.T) {
	h := house(0, spans(to(1, 2), to(3, 3)), 0, 0)
	for i, c := range []struct {
		h    api.OutworkHouse
		b    []api.OutworkEntry
		want []int
		e    api.Errno
	}{
		{example(), exampleWrong(), numbers(0), api.OK}, {example(), exampleBook(), nil, api.ErrTwice}, {example(), nil, nil, api.ErrTwice}, // example 4
		{h, book(back(0, 0, 1)), numbers(0), api.OK}, {h, book(done(0, 1)), numbers(0), api.OK}, {h, book(out(0, 0, 9), done(0, 1)), numbers(1), api.OK}, {h, book(out(0, 0, 9), out(0, 1, 0), done(0, 1)), numbers(1), api.OK}, {h, book(done(0, 1), out(0, 1, 3), out(0, 0, 0)), numbers(0), api.OK},
		{h, book(out(0, 0, 9), back(0, 0, 10), back(1, 0, 10)), numbers(0, 2), api.OK}, {h, book(back(1, 0, 10), back(0, 0, 10), out(1, 0, 5)), numbers(0, 1), api.OK}, {h, book(out(2, 1, 9), back(1, 0, 10), back(0, 0, 10), out(1, 1, 5)), numbers(1, 2), api.OK}, // of two workers
		{h, book(out(0, 0, 0), out(0, 1, 0), done(0, 9)), numbers(2), api.OK}, {h, book(out(0, 0, 0), out(0, 1, 0), back(0, 0, 1), back(0, 1, 1), done(0, 9)), numbers(0, 1), api.OK}, // of two stuffs
		{h, slices.Repeat(book(back(3, 0, 1)), 12), numbers(0, 1, 2, 3, 4, 5, 6, 7, 8, 9, 10, 11), api.OK}, {h, append(slices.Repeat(book(back(3, 0, 1)), 11), out(3, 0, 0)), numbers(11), api.OK},
		{h, append(slices.Repeat(book(back(3, 0, 100000)), 3), out(3, 0, 50000)), numbers(0, 1, 2), api.OK}, {h, append(slices.Repeat(book(back(3, 0, 100000)), 3), out(3, 0, 0)), numbers(0, 1, 2), api.OK}, {h, append(slices.Repeat(book(back(3, 0, 50000)), 3), out(3, 0, 0)), numbers(0, 3), api.OK}, {h, append(slices.Repeat(book(back(3, 0, 50000)), 2), out(3, 0, 0)), numbers(2), api.OK}, {h, append(slices.Repeat(book(back(3, 0, 50000)), 2), back(3, 0, 1), out(3, 0, 0)), numbers(0, 3), api.OK}, // a Count has an upper limit
		{h, book(back(3, 0, 25000), back(3, 0, 50000), back(3, 0, 50000), back(3, 0, 75000), out(3, 0, 100000)), numbers(0, 3), api.OK},                                                                                                             // also 1, 2
		{house(1, spans(to(0, 0)), 0), append(slices.Repeat(book(back(3, 0, 50001)), 2), out(3, 0, 0)), numbers(2), api.OK}, {house(1, spans(to(0, 0)), 0), append(slices.Repeat(book(back(3, 0, 50002)), 2), out(3, 0, 0)), numbers(0, 1), api.OK}, // the true weight can be above it
	} {
		if l, e := outwork.Wrong(c.h, c.b); !slices.Equal(l, c.want) || e != c.e {
			t.Error(i, l, e)
		}
	}
}

// P7.8
func TestBlame(t *testing.T) {
	none, all, fans := to(1, 0), to(0, 100000), to(0, 500)
	h := house(0, spans(to(1, 2), to(3, 3)), 0, 0)
	for i, c := range []struct {
		h    api.OutworkHouse
		b    []api.OutworkEntry
		want []api.Span
	}{
		{example(), exampleWrong(), spans(to(204, 100000), none, to(0, 9), to(0, 56), none, to(0, 46))}, {example(), exampleBook(), spans(to(156, 100000), to(48, 100000), to(0, 14), to(0, 104), all)}, {example(), nil, nil}, // example 4
		{h, book(out(0, 0, 9)), spans(all)}, {h, book(back(0, 0, 9)), spans(to(0, 0))}, {h, book(done(0, 9)), spans(to(0, 0))}, {house(0, spans(to(0, 9)), 0), book(done(0, 9)), spans(fans)}, {house(7, spans(to(0, 9)), 0), book(back(0, 0, 9)), spans(to(0, 7))},
		{h, book(out(0, 0, 9), back(0, 0, 20)), spans(to(20, 100000), to(0, 9))}, {h, book(out(0, 0, 9), back(0, 0, 100000)), spans(to(100000, 100000), to(0, 9))}, {h, book(out(0, 0, 9), back(0, 0, 100000), back(0, 0, 1)), spans(none, to(0, 8), none)}, {house(1, spans(to(0, 0)), 0), book(out(0, 0, 9), back(0, 0, 100000), back(0, 0, 3)), spans(to(100000, 100000), to(0, 9), none)},
		{h, book(back(0, 0, 1), back(1, 0, 1)), spans(none, none)}, {h, book(back(0, 0, 1), out(0, 0, 9), out(1, 0, 9)), spans(to(0, 9), to(1, 100000), all)}, {h, book(out(0, 0, 400), out(0, 1, 600), done(0, 50), done(0, 100)), spans(to(150, 100000), to(450, 100000), to(0, 100), to(0, 150))}, {h, book(out(0, 0, 100000), out(0, 1, 100000), done(0, 50)), spans(to(50, 100000), to(150, 100000), fans)},
	} {
		if l, e := outwork.Blame(c.h, c.b); !slices.Equal(l, c.want) || e != api.OK {
			t.Error(i, l, e)
		}
	}
}

// P7.9
func TestWeigh(t *testing.T) {
	h := house(1, spans(to(0, 0), to(1, 3)), 0, 0)
	for i, c := range []struct {
		h             api.OutworkHouse
		b             []api.OutworkEntry
		stuff         int
		worker, width int
		e             api.Errno
	}{
		{example(), exampleBook(), 0, 0, 44, api.OK}, {example(), exampleBook(), 1, 0, 4, api.OK}, {example(), nil, 0, 0, 0, api.ErrNone}, // example 3
		{h, book(out(3, 0, 9), out(1, 0, 9)), 0, 1, 2, api.OK}, {h, book(out(3, 0, 9), out(1, 0, 9), back(3, 0, 5)), 0, 3, 4, api.OK}, {h, book(out(3, 0, 9), out(1, 0, 9), back(3, 0, 5)), 1, 0, 0, api.ErrNone}, {h, book(out(5, 0, 9)), 0, 5, 2, api.OK}, {h, book(out(5, 0, 0)), 0, 5, 1, api.OK}, {h, book(out(2, 1, 30), out(4, 1, 30), done(4, 5)), 1, 4, 12, api.OK},
		{house(0, spans(to(1, 1)), 0), book(out(0, 0, 9), done(0, 4), back(0, 0, 2)), 0, 0, 0, api.ErrNone}, {house(0, spans(to(1, 1)), 100), book(out(0, 0, 9)), 0, 0, 0, api.ErrNone}, {house(0, spans(to(1, 1)), 100), book(out(2, 0, 10)), 0, 2, 1, api.OK}, {house(2, spans(to(1, 1)), 0), book(out(2, 0, 10), back(2, 0, 14)), 0, 0, 0, api.ErrNone},
	} {
		if worker, width, e := outwork.Weigh(c.h, c.b, c.stuff); worker != c.worker || width != c.width || e != c.e {
			t.Error(i, worker, width, e)
		}
	}
}

// P7.10
func TestSettle(t *testing.T) {
	one := func(scales, low, high, lost int) api.OutworkHouse { return house(scales, spans(to(low, high)), lost) }
	for i, c := range []struct {
		h      api.OutworkHouse
		b      []api.OutworkEntry
		worker int
		want   []int
		e      api.Errno
	}{
		{example(), exampleBook(), 0, numbers(44, 52), api.OK}, {example(), exampleBook(), 1, numbers(52, 0), api.OK}, {example(), exampleBook(), 4, numbers(0, 0), api.OK}, {example(), nil, 0, numbers(0, 0), api.OK}, // example 3
		{one(0, 0, 0, 0), book(out(0, 0, 9)), 0, numbers(9), api.OK}, {one(3, 0, 0, 0), book(out(0, 0, 9)), 0, numbers(12), api.OK}, {one(3, 0, 0, 0), book(out(0, 0, 0)), 0, numbers(0), api.OK}, {one(3, 0, 0, 0), book(out(0, 0, 1)), 0, numbers(4), api.OK}, {one(3, 0, 0, 0), book(out(0, 0, 5), back(0, 0, 8)), 0, numbers(0), api.OK}, {one(3, 0, 0, 0), book(out(0, 0, 5), back(0, 0, 7)), 0, numbers(4), api.OK},
		{one(2, 1, 2, 500), book(out(0, 0, 20), done(0, 5)), 0, numbers(17), api.OK}, {one(0, 0, 0, 1000), book(out(0, 0, 20)), 0, numbers(20), api.OK},
		{one(0, 0, 0, 0), book(out(0, 0, 100000)), 0, numbers(100000), api.OK}, {one(0, 0, 0, 0), book(out(0, 0, 100000), out(0, 0, 1)), 0, nil, api.ErrNone}, {one(2, 0, 0, 0), book(out(0, 0, 99998)), 0, numbers(100000), api.OK}, {one(2, 0, 0, 0), book(out(0, 0, 99999)), 0, nil, api.ErrNone}, {one(2, 0, 0, 0), book(out(0, 0, 100000)), 1, numbers(0), api.OK},
		{house(0, spans(to(0, 0), to(0, 0)), 0, 0), book(out(0, 0, 5), out(0, 1, 100000), out(0, 1, 9)), 0, nil, api.ErrNone}, {one(0, 0, 0, 0), slices.Repeat(book(out(0, 0, 7)), 12), 0, numbers(84), api.OK}, // one entry more than there may be
	} {
		if l, e := outwork.Settle(c.h, c.b, c.worker); !slices.Equal(l, c.want) || e != c.e {
			t.Error(i, l, e)
		}
	}
}

// P7.11
func TestMoved(t *testing.T) {
	h := house(1, spans(to(2, 3), to(0, 5)), 500, 500)
	for i, c := range []struct {
		h    api.OutworkHouse
		b    []api.OutworkEntry
		want []int
		e    api.Errno
	}{
		{example(), exampleWrong(), numbers(4, 0), api.OK}, {example(), exampleBook(), numbers(0, 0), api.OK}, {example(), nil, numbers(0, 0), api.OK}, // example 4
		{h, book(out(0, 0, 9), back(1, 0, 11)), numbers(10, 0), api.OK}, {h, book(out(0, 0, 9), back(1, 0, 12)), nil, api.ErrNone}, {h, book(out(0, 1, 9), back(1, 1, 12)), nil, api.ErrNone}, {h, book(back(1, 0, 9)), nil, api.ErrNone}, {h, book(out(0, 1, 90), back(1, 0, 9)), nil, api.ErrNone}, {h, book(back(1, 0, 1)), numbers(0, 0), api.OK},
		{h, book(out(0, 0, 90), done(1, 3), done(5, 4)), numbers(14, 0), api.OK}, {h, book(out(0, 0, 90), out(1, 0, 3), done(1, 3), done(5, 4)), numbers(10, 0), api.OK}, {h, book(out(0, 0, 90), out(1, 1, 90), back(0, 1, 20), back(1, 0, 30)), numbers(29, 19), api.OK}, {h, book(out(0, 0, 9), out(1, 0, 9), back(2, 0, 18)), numbers(17, 0), api.OK}, // from several workers, and to several
	} {
		if l, e := outwork.Moved(c.h, c.b); !slices.Equal(l, c.want) || e != c.e {
			t.Error(i, l, e)
		}
	}
}
