package tooth_test

import (
	"slices"
	"testing"

	"panache/api"
	"panache/tooth"
)

// P1.1
func TestCheck(t *testing.T) {
	type change = func(b *api.ToothBlade)
	one := func(column, from, to api.Span) change {
		return func(b *api.ToothBlade) { b.Cracks = append(b.Cracks, crack(column, from, to)) }
	}
	bottom := func(x int, s api.Span) change { return func(b *api.ToothBlade) { b.Bottom[x] = s } }
	top := func(x int, s api.Span) change { return func(b *api.ToothBlade) { b.Top[x] = s } }
	bend := func(n int) change { return func(b *api.ToothBlade) { b.Bend = n } }
	for i, c := range []struct {
		change change
		e      api.Errno
	}{
		{func(b *api.ToothBlade) {}, api.OK},
		{func(b *api.ToothBlade) { *b = api.ToothBlade{} }, api.ErrForm},
		{func(b *api.ToothBlade) { b.Top = b.Top[:5] }, api.ErrForm},
		{func(b *api.ToothBlade) { b.Bottom = b.Bottom[:5] }, api.ErrForm},
		{func(b *api.ToothBlade) { b.Bottom, b.Cracks = nil, nil }, api.ErrForm},
		{func(b *api.ToothBlade) { *b = plain(1, 0, 0) }, api.OK},
		{func(b *api.ToothBlade) { *b = plain(api.MaxToothColumns, 0, api.MaxToothHigh) }, api.OK},
		{func(b *api.ToothBlade) { *b = plain(api.MaxToothColumns+1, 0, 9) }, api.ErrForm},
		{func(b *api.ToothBlade) { b.Cracks = slices.Repeat(b.Cracks, api.MaxToothCracks) }, api.OK},
		{func(b *api.ToothBlade) { b.Cracks = slices.Repeat(b.Cracks, api.MaxToothCracks+1) }, api.ErrLong},
		{bend(0), api.ErrState}, {bend(api.MaxToothBend), api.OK}, {bend(api.MaxToothBend + 1), api.ErrArg}, {bend(-1), api.ErrArg},
		{bend(7), api.ErrState}, {bend(8), api.OK}, // 30 and 22 are neighbours above
		{bottom(1, to(1, 0)), api.ErrArg}, {bottom(1, to(-1, 0)), api.ErrArg}, {bottom(5, to(0, 30)), api.OK}, {bottom(5, to(0, 31)), api.ErrArg},
		{top(1, to(30, 29)), api.ErrArg}, {top(5, to(30, 300)), api.OK}, {top(5, to(30, 301)), api.ErrArg}, {top(2, to(4, 30)), api.OK}, {top(2, to(3, 30)), api.ErrArg}, {top(1, to(-1, 30)), api.ErrArg},
		{bottom(0, to(11, 12)), api.ErrState}, {bottom(0, to(10, 12)), api.OK}, // the column 1 has 0
		{one(to(0, 0), to(0, 0), to(0, 0)), api.OK}, {one(to(5, 5), to(300, 300), to(300, 300)), api.OK}, {one(to(0, 4), to(0, 150), to(150, 300)), api.OK},
		{one(to(0, 5), to(0, 0), to(0, 0)), api.ErrArg}, {one(to(1, 0), to(0, 0), to(0, 0)), api.ErrArg}, {one(to(-1, 0), to(0, 0), to(0, 0)), api.ErrArg}, {one(to(5, 6), to(0, 0), to(0, 0)), api.ErrArg},
		{one(to(0, 0), to(1, 0), to(1, 1)), api.ErrArg}, {one(to(0, 0), to(-1, 0), to(1, 1)), api.ErrArg}, {one(to(0, 0), to(0, 0), to(2, 1)), api.ErrArg}, {one(to(0, 0), to(0, 0), to(0, 301)), api.ErrArg}, {one(to(0, 0), to(0, 2), to(1, 3)), api.ErrArg}, {one(to(0, 0), to(0, 2), to(2, 2)), api.OK},
		// the error that is named first
		{func(b *api.ToothBlade) { b.Top, b.Bend, b.Cracks = b.Top[:5], -1, make([]api.ToothCrack, 5) }, api.ErrForm},
		{func(b *api.ToothBlade) { b.Bend, b.Cracks = -1, make([]api.ToothCrack, 5) }, api.ErrLong},
		{func(b *api.ToothBlade) { b.Bottom[0], b.Cracks[0].Column = to(20, 25), to(6, 6) }, api.ErrArg},
		{func(b *api.ToothBlade) { b.Bottom[0], b.Top[3] = to(20, 25), to(30, 301) }, api.ErrArg},
	} {
		if e := tooth.Check(example(c.change)); e != c.e {
			t.Error(i, e)
		}
	}
}

// calls returns the error of each function that takes a blade and a saw.
func calls(b api.ToothBlade, s api.ToothSaw, p api.ToothPlace, layout []api.ToothPlace, sticks int) []api.Errno {
	_, _, fits := tooth.Fits(b, s, p)
	_, block := tooth.Block(b, s, p.X)
	_, most := tooth.Most(b, s)
	_, fault := tooth.Fault(b, s, layout)
	_, _, bound := tooth.Bound(b, s)
	_, _, possible := tooth.Possible(b, s)
	_, costs := tooth.Costs(b, s)
	_, _, look := tooth.Look(b, s)
	_, widest := tooth.Widest(b, s, sticks)
	return []api.Errno{fits, block, most, fault, bound, possible, costs, look, widest}
}

// P1.1: the errors of the blade come first, then that of the saw, then those of the function.
func TestErrorsInOrder(t *testing.T) {
	long := make([]api.ToothPlace, api.MaxToothPlaces+1)
	for i, c := range []struct {
		b api.ToothBlade
		s api.ToothSaw
		e api.Errno
	}{
		{api.ToothBlade{}, saw(0, 0, 0, 0), api.ErrForm},
		{cracked(3, 0, 9, make([]api.ToothCrack, 5)...), saw(0, 0, 0, 0), api.ErrLong},
		{cracked(3, 0, 9, crack(to(0, 3), to(0, 0), to(0, 0))), saw(0, 0, 0, 0), api.ErrArg},
		{api.ToothBlade{Bottom: []api.Span{to(0, 0), to(5, 5)}, Top: same(2, to(9, 9)), Bend: 4}, saw(0, 0, 0, 0), api.ErrState},
		{example(), saw(0, 6, 1, 0), api.ErrRange}, {example(), saw(31, 6, 1, 0), api.ErrRange}, {example(), saw(-1, 6, 1, 0), api.ErrRange},
		{example(), saw(2, 0, 1, 0), api.ErrRange}, {example(), saw(2, 301, 1, 0), api.ErrRange}, {example(), saw(2, -1, 1, 0), api.ErrRange},
		{example(), saw(2, 6, -1, 0), api.ErrRange}, {example(), saw(2, 6, 51, 0), api.ErrRange},
		{example(), saw(2, 6, 1, -1), api.ErrRange}, {example(), saw(2, 6, 1, 51), api.ErrRange},
	} {
		for k, e := range calls(c.b, c.s, at(-1, -1), long, 0) {
			if e != c.e {
				t.Error(i, k, e)
			}
		}
	}
	if bottom, top, e := tooth.Curve(api.ToothBlade{Bottom: []api.Span{to(0, 0), to(5, 5)}, Top: same(2, to(9, 9)), Bend: 4}); len(bottom) > 0 || len(top) > 0 || e != api.ErrState {
		t.Error(bottom, top, e)
	}
	greatest := plain(api.MaxToothColumns, 0, api.MaxToothHigh)
	for k, e := range calls(greatest, saw(30, 300, 50, 50), at(0, 0), long[1:], 1) {
		if e != api.OK && k != 7 { // it is worth no look
			t.Error(k, e)
		}
	}
}

// P1.2
func TestCurve(t *testing.T) {
	for i, c := range []struct {
		edge []api.Span
		bend int
		want []api.Span
	}{
		{[]api.Span{to(5, 9)}, 0, []api.Span{to(5, 9)}},
		{[]api.Span{to(0, 9), to(0, 0)}, 3, []api.Span{to(0, 3), to(0, 0)}},
		{[]api.Span{to(0, 0), to(0, 9)}, 3, []api.Span{to(0, 0), to(0, 3)}},
		{[]api.Span{to(0, 9), to(9, 9)}, 3, []api.Span{to(6, 9), to(9, 9)}},
		{[]api.Span{to(9, 9), to(0, 9)}, 3, []api.Span{to(9, 9), to(6, 9)}},
		{[]api.Span{to(0, 0), to(0, 20), to(0, 20), to(0, 20)}, 3, []api.Span{to(0, 0), to(0, 3), to(0, 6), to(0, 9)}},
		{[]api.Span{to(0, 20), to(0, 20), to(0, 20), to(20, 20)}, 3, []api.Span{to(11, 20), to(14, 20), to(17, 20), to(20, 20)}},
		{[]api.Span{to(0, 0), to(0, 20), to(0, 20), to(9, 9)}, 3, []api.Span{to(0, 0), to(3, 3), to(6, 6), to(9, 9)}},
		{[]api.Span{to(5, 9), to(7, 20), to(3, 8)}, 0, []api.Span{to(7, 8), to(7, 8), to(7, 8)}},
		{[]api.Span{to(0, 20), to(10, 10), to(0, 20)}, 2, []api.Span{to(8, 12), to(10, 10), to(8, 12)}},
		{[]api.Span{to(0, 20), to(3, 17)}, 300, []api.Span{to(0, 20), to(3, 17)}},
	} {
		n := len(c.edge)
		b := api.ToothBlade{Bottom: c.edge, Top: same(n, to(40, 40)), Bend: c.bend}
		if bottom, top, e := tooth.Curve(b); !slices.Equal(bottom, c.want) || !slices.Equal(top, b.Top) || e != api.OK {
			t.Error(i, bottom, top, e)
		}
		b = api.ToothBlade{Bottom: same(n, to(0, 0)), Top: c.edge, Bend: c.bend}
		if bottom, top, e := tooth.Curve(b); !slices.Equal(bottom, b.Bottom) || !slices.Equal(top, c.want) || e != api.OK {
			t.Error(i, bottom, top, e)
		}
	}
	b := example() // example 1
	if bottom, top, e := tooth.Curve(b); !slices.Equal(bottom, b.Bottom) || !slices.Equal(top, b.Top) || e != api.OK {
		t.Error(bottom, top, e)
	}
}

// P1.3
func TestFits(t *testing.T) {
	known := cracked(3, 0, 20, crack(to(1, 1), to(8, 8), to(12, 12)))
	point := cracked(1, 0, 20, crack(to(0, 0), to(8, 8), to(8, 8)))
	doubt := cracked(4, 0, 20, crack(to(1, 2), to(8, 10), to(12, 14)))
	for i, c := range []struct {
		b                api.ToothBlade
		s                api.ToothSaw
		p                api.ToothPlace
		surely, possibly bool
		e                api.Errno
	}{
		{example(), saw(2, 6, 1, 0), at(0, 2), true, true, api.OK}, {example(), saw(2, 6, 1, 0), at(0, 1), false, true, api.OK},
		{example(), saw(2, 6, 1, 0), at(2, 14), true, true, api.OK}, {example(), saw(2, 6, 1, 0), at(2, 15), false, true, api.OK}, {example(), saw(2, 6, 1, 0), at(2, 16), false, true, api.OK}, {example(), saw(2, 6, 1, 0), at(2, 17), false, false, api.OK},
		{example(), saw(2, 6, 1, 0), at(2, 1), false, true, api.OK}, {example(), saw(2, 6, 1, 0), at(2, 0), false, false, api.OK},
		{known, saw(1, 8, 0, 0), at(1, 0), true, true, api.OK}, {known, saw(1, 9, 0, 0), at(1, 0), false, false, api.OK}, {known, saw(1, 8, 0, 0), at(1, 12), true, true, api.OK}, {known, saw(1, 8, 0, 0), at(1, 11), false, false, api.OK},
		{known, saw(1, 20, 0, 0), at(0, 0), true, true, api.OK}, {known, saw(1, 20, 0, 0), at(2, 0), true, true, api.OK}, {known, saw(2, 20, 0, 0), at(0, 0), false, false, api.OK}, {known, saw(2, 20, 0, 0), at(1, 0), false, false, api.OK},
		{point, saw(1, 4, 0, 0), at(0, 4), true, true, api.OK}, {point, saw(1, 4, 0, 0), at(0, 5), false, false, api.OK}, {point, saw(1, 4, 0, 0), at(0, 8), true, true, api.OK},
		{doubt, saw(1, 8, 0, 0), at(1, 0), true, true, api.OK}, {doubt, saw(1, 9, 0, 0), at(1, 0), false, true, api.OK}, {doubt, saw(1, 20, 0, 0), at(2, 0), false, true, api.OK}, {doubt, saw(1, 20, 0, 0), at(0, 0), true, true, api.OK},
		{doubt, saw(2, 10, 0, 0), at(1, 0), false, true, api.OK}, {doubt, saw(2, 11, 0, 0), at(1, 0), false, false, api.OK}, {doubt, saw(2, 6, 0, 0), at(1, 14), true, true, api.OK}, {doubt, saw(2, 6, 0, 0), at(1, 12), false, true, api.OK}, {doubt, saw(2, 6, 0, 0), at(1, 11), false, false, api.OK}, {doubt, saw(4, 10, 0, 0), at(0, 1), false, false, api.OK},
		{plain(1, 0, 300), saw(1, 300, 0, 0), at(0, 0), true, true, api.OK}, {plain(1, 0, 300), saw(1, 1, 0, 0), at(0, 299), true, true, api.OK}, {plain(1, 0, 300), saw(1, 1, 0, 0), at(0, 300), false, false, api.OK},
		{plain(1, 0, 300), saw(1, 1, 0, 0), at(0, 301), false, false, api.ErrArg}, {plain(1, 0, 300), saw(1, 1, 0, 0), at(0, -1), false, false, api.ErrArg},
		{plain(3, 0, 9), saw(2, 9, 0, 0), at(1, 0), true, true, api.OK}, {plain(3, 0, 9), saw(2, 9, 0, 0), at(2, 0), false, false, api.ErrArg}, {plain(3, 0, 9), saw(2, 9, 0, 0), at(-1, 0), false, false, api.ErrArg}, {plain(3, 0, 9), saw(4, 9, 0, 0), at(0, 0), false, false, api.ErrArg}, {plain(3, 0, 9), saw(4, 9, 0, 0), at(-1, 0), false, false, api.ErrArg},
		{api.ToothBlade{Bottom: []api.Span{to(0, 9), to(0, 0)}, Top: same(2, to(20, 20)), Bend: 3}, saw(1, 4, 0, 0), at(0, 3), true, true, api.OK}, // the bend, not the span
		{api.ToothBlade{Bottom: []api.Span{to(0, 9), to(9, 9)}, Top: same(2, to(20, 20)), Bend: 3}, saw(1, 4, 0, 0), at(0, 5), false, false, api.OK},
	} {
		if surely, possibly, e := tooth.Fits(c.b, c.s, c.p); surely != c.surely || possibly != c.possibly || e != c.e {
			t.Error(i, surely, possibly, e)
		}
	}
}

// P1.4
func TestBlock(t *testing.T) {
	two := cracked(2, 0, 40, crack(to(0, 0), to(5, 6), to(9, 10)), crack(to(0, 1), to(20, 20), to(20, 21)))
	for i, c := range []struct {
		b    api.ToothBlade
		s    api.ToothSaw
		x    int
		want []int
		e    api.Errno
	}{
		{example(), saw(2, 6, 1, 0), 0, []int{2, 9, 16, 23}, api.OK}, {example(), saw(2, 6, 1, 0), 2, []int{4, 11}, api.OK}, {example(), saw(2, 6, 1, 0), 4, []int{3, 14, 21}, api.OK}, // example 2
		{two, saw(1, 5, 0, 0), 0, []int{0, 10, 15, 21, 26, 31}, api.OK}, {two, saw(1, 5, 0, 0), 1, []int{0, 5, 10, 15, 21, 26, 31}, api.OK}, {two, saw(1, 6, 0, 0), 0, []int{10, 21, 27, 33}, api.OK}, {two, saw(1, 5, 6, 0), 0, []int{0, 11, 22, 33}, api.OK},
		{plain(1, 3, 9), saw(1, 3, 0, 0), 0, []int{3, 6}, api.OK}, {plain(1, 3, 9), saw(1, 6, 50, 0), 0, []int{3}, api.OK}, {plain(1, 3, 9), saw(1, 7, 0, 0), 0, nil, api.OK},
		{plain(3, 0, 9), saw(2, 5, 0, 0), 1, []int{0}, api.OK}, {plain(3, 0, 9), saw(2, 5, 0, 0), 2, nil, api.ErrArg}, {plain(3, 0, 9), saw(2, 5, 0, 0), -1, nil, api.ErrArg}, {plain(3, 0, 9), saw(4, 5, 0, 0), 0, nil, api.ErrArg}, {plain(3, 0, 9), saw(4, 5, 0, 0), -1, nil, api.ErrArg},
	} {
		if l, e := tooth.Block(c.b, c.s, c.x); !slices.Equal(l, c.want) || e != c.e {
			t.Error(i, l, e)
		}
	}
	if l, _ := tooth.Block(plain(1, 0, 300), saw(1, 1, 0, 0), 0); len(l) != 300 || l[299] != 299 {
		t.Error(l)
	}
}

// nine is the layout of example 3.
func nine() []api.ToothPlace {
	return []api.ToothPlace{at(0, 2), at(0, 9), at(0, 16), at(0, 23), at(2, 4), at(2, 11), at(4, 3), at(4, 14), at(4, 21)}
}

// P1.5
func TestMost(t *testing.T) {
	for i, c := range []struct {
		b    api.ToothBlade
		s    api.ToothSaw
		want []api.ToothPlace
	}{
		{example(), saw(2, 6, 1, 0), nine()},
		{plain(5, 0, 10), saw(2, 5, 0, 0), []api.ToothPlace{at(0, 0), at(0, 5), at(2, 0), at(2, 5)}},
		{plain(5, 0, 10), saw(2, 5, 0, 1), []api.ToothPlace{at(0, 0), at(0, 5), at(3, 0), at(3, 5)}},
		{plain(5, 0, 10), saw(2, 5, 0, 2), []api.ToothPlace{at(0, 0), at(0, 5)}},
		{plain(5, 0, 10), saw(2, 5, 0, 50), []api.ToothPlace{at(0, 0), at(0, 5)}},
		{plain(3, 0, 10), saw(3, 10, 0, 0), []api.ToothPlace{at(0, 0)}},
		{plain(3, 0, 10), saw(4, 1, 0, 0), nil}, {plain(3, 0, 10), saw(1, 11, 0, 0), nil},
		// a block that comes later has more, and of blocks with as many the first is taken
		{cracked(3, 0, 10, crack(to(0, 0), to(1, 1), to(9, 9))), saw(2, 5, 0, 0), []api.ToothPlace{at(1, 0), at(1, 5)}},
		{cracked(4, 0, 10, crack(to(3, 3), to(0, 0), to(10, 10))), saw(2, 10, 0, 0), []api.ToothPlace{at(0, 0)}},
		{cracked(2, 0, 10, crack(to(0, 0), to(0, 0), to(10, 10))), saw(1, 10, 0, 1), []api.ToothPlace{at(1, 0)}},
	} {
		if l, e := tooth.Most(c.b, c.s); !slices.Equal(l, c.want) || e != api.OK {
			t.Error(i, l, e)
		}
	}
	if l, e := tooth.Most(plain(30, 0, 300), saw(1, 1, 0, 0)); len(l) != 9000 || e != api.OK {
		t.Error(len(l), e)
	}
}

// P1.6
func TestFault(t *testing.T) {
	s := saw(2, 6, 1, 0)
	for i, c := range []struct {
		s      api.ToothSaw
		layout []api.ToothPlace
		at     int
		e      api.Errno
	}{
		{s, nil, 0, api.ErrNone}, {s, nine(), 0, api.ErrNone}, {s, []api.ToothPlace{at(4, 14), at(0, 9), at(4, 3), at(0, 2)}, 0, api.ErrNone}, {saw(7, 6, 1, 0), nil, 0, api.ErrNone},
		{s, []api.ToothPlace{at(0, 1)}, 0, api.OK}, {s, []api.ToothPlace{at(0, 2), at(4, 4), at(0, 1)}, 2, api.OK}, {s, []api.ToothPlace{at(0, 2), at(4, 5), at(0, 1)}, 1, api.OK}, {s, append(nine(), at(2, 4)), 9, api.OK},
		{s, []api.ToothPlace{at(0, 2), at(0, 9), at(0, 8)}, 2, api.OK}, {s, []api.ToothPlace{at(0, 2), at(0, 8)}, 1, api.OK}, {s, []api.ToothPlace{at(0, 9), at(0, 2)}, 0, api.ErrNone}, {s, []api.ToothPlace{at(0, 9), at(0, 3)}, 1, api.OK}, {s, []api.ToothPlace{at(0, 9), at(0, 9)}, 1, api.OK},
		{s, []api.ToothPlace{at(2, 4), at(1, 12)}, 1, api.OK}, {s, []api.ToothPlace{at(1, 4), at(2, 12)}, 1, api.OK}, {s, []api.ToothPlace{at(2, 4), at(0, 2)}, 0, api.ErrNone},
		{saw(2, 6, 1, 1), []api.ToothPlace{at(0, 2), at(3, 1)}, 0, api.ErrNone}, {saw(2, 6, 1, 1), []api.ToothPlace{at(0, 2), at(2, 4)}, 1, api.OK},
		{s, []api.ToothPlace{at(0, 2), at(0, 9), at(0, 17), at(0, 24)}, 0, api.ErrNone}, {s, []api.ToothPlace{at(0, 300)}, 0, api.OK},
		{s, []api.ToothPlace{at(0, 1), at(5, 2)}, 0, api.ErrArg}, {s, []api.ToothPlace{at(0, 1), at(-1, 2)}, 0, api.ErrArg}, {s, []api.ToothPlace{at(0, 1), at(0, 301)}, 0, api.ErrArg}, {s, []api.ToothPlace{at(0, 1), at(0, -1)}, 0, api.ErrArg}, {saw(7, 6, 1, 0), []api.ToothPlace{at(0, 2)}, 0, api.ErrArg},
		{s, make([]api.ToothPlace, api.MaxToothPlaces), 0, api.OK}, {s, make([]api.ToothPlace, api.MaxToothPlaces+1), 0, api.ErrLong}, {s, slices.Repeat([]api.ToothPlace{at(9, 9)}, api.MaxToothPlaces+1), 0, api.ErrLong},
	} {
		if at, e := tooth.Fault(example(), c.s, c.layout); at != c.at || e != c.e {
			t.Error(i, at, e)
		}
	}
	b, z := plain(30, 0, 300), saw(2, 11, 0, 0)
	full, _ := tooth.Most(b, z)
	full = full[:api.MaxToothPlaces]
	if _, e := tooth.Fault(b, z, full); e != api.ErrNone {
		t.Error(e)
	}
	full[399] = full[0]
	if at, e := tooth.Fault(b, z, full); at != 399 || e != api.OK {
		t.Error(at, e)
	}
}

// P1.7
func TestBound(t *testing.T) {
	for i, c := range []struct {
		b             api.ToothBlade
		s             api.ToothSaw
		sticks, class int
	}{
		{example(), saw(2, 6, 1, 0), 9, 0}, // example 4
		{example(), saw(1, 6, 1, 0), 20, 0}, {example(), saw(6, 6, 1, 0), 2, 2}, {example(), saw(7, 6, 1, 0), 0, 6}, {example(), saw(30, 6, 1, 0), 0, 6},
		{plain(5, 0, 10), saw(2, 5, 0, 0), 4, 1}, {plain(4, 0, 10), saw(2, 5, 0, 0), 4, 0}, {plain(4, 0, 10), saw(2, 11, 0, 0), 0, 0}, {plain(5, 0, 10), saw(2, 5, 1, 50), 2, 1},
		{cracked(4, 0, 10, crack(to(0, 1), to(1, 1), to(9, 9))), saw(2, 5, 0, 0), 2, 0}, {cracked(4, 0, 10, crack(to(3, 3), to(1, 1), to(9, 9))), saw(2, 5, 0, 0), 2, 1},
	} {
		if sticks, class, e := tooth.Bound(c.b, c.s); sticks != c.sticks || class != c.class || e != api.OK {
			t.Error(i, sticks, class, e)
		}
	}
}

// P1.8
func TestPossible(t *testing.T) {
	for i, c := range []struct {
		b       api.ToothBlade
		s       api.ToothSaw
		sticks  int
		columns []int
	}{
		{example(), saw(2, 6, 1, 0), 10, []int{4}}, {example(), saw(7, 6, 1, 0), 0, []int{4}}, {plain(5, 0, 10), saw(2, 5, 0, 0), 4, nil},
		{cracked(3, 0, 10, crack(to(0, 2), to(5, 5), to(6, 6))), saw(2, 10, 0, 0), 1, []int{0}},
		{cracked(3, 0, 10, crack(to(0, 2), to(4, 4), to(6, 6))), saw(3, 5, 0, 0), 0, []int{0}},
		{cracked(3, 0, 10, crack(to(0, 2), to(4, 5), to(5, 6))), saw(3, 5, 0, 0), 2, []int{0}}, // it can be but a point
		{cracked(5, 0, 10, crack(to(0, 2), to(5, 5), to(6, 6))), saw(2, 10, 0, 0), 2, []int{0}},
		{cracked(4, 0, 10, crack(to(1, 2), to(5, 5), to(6, 6)), crack(to(0, 3), to(5, 5), to(6, 6))), saw(2, 10, 0, 0), 1, []int{1, 0}},
		{cracked(4, 0, 10, crack(to(0, 3), to(5, 5), to(6, 6)), crack(to(2, 2), to(5, 5), to(6, 6))), saw(2, 10, 0, 0), 1, []int{2, 2}},
		{cracked(4, 0, 10, crack(to(3, 3), to(5, 5), to(6, 6)), crack(to(0, 3), to(5, 5), to(6, 6))), saw(2, 10, 0, 0), 1, []int{3, 0}},
		{api.ToothBlade{Bottom: []api.Span{to(0, 5), to(3, 5)}, Top: []api.Span{to(10, 30), to(10, 13)}, Bend: 1}, saw(1, 6, 0, 0), 3, nil}, // 2 to 14, 3 to 13
	} {
		if sticks, columns, e := tooth.Possible(c.b, c.s); sticks != c.sticks || !slices.Equal(columns, c.columns) || e != api.OK {
			t.Error(i, sticks, columns, e)
		}
	}
}

// P1.9
func TestCosts(t *testing.T) {
	across := crack(to(0, 0), to(4, 4), to(6, 6))
	for i, c := range []struct {
		b    api.ToothBlade
		s    api.ToothSaw
		want []int
	}{
		{example(), saw(2, 6, 1, 0), []int{1}}, // example 5
		{plain(5, 0, 10), saw(2, 5, 0, 0), nil}, {example(), saw(7, 6, 1, 0), []int{0}},
		{cracked(2, 0, 10, across), saw(1, 5, 0, 0), []int{2}}, {cracked(2, 0, 10, across, across), saw(1, 5, 0, 0), []int{0, 0}},
		{cracked(2, 0, 10, across, crack(to(1, 1), to(0, 0), to(1, 1)), crack(to(0, 1), to(0, 0), to(0, 0))), saw(1, 5, 0, 0), []int{2, 1, 0}},
		{cracked(3, 0, 10, crack(to(1, 2), to(0, 0), to(1, 1)), crack(to(0, 0), to(5, 5), to(7, 7))), saw(1, 5, 0, 0), []int{2, 1}},
	} {
		if l, e := tooth.Costs(c.b, c.s); !slices.Equal(l, c.want) || e != api.OK {
			t.Error(i, l, e)
		}
	}
}

// P1.10
func TestLook(t *testing.T) {
	edges := func(bend int, bottom, top []api.Span) api.ToothBlade {
		return api.ToothBlade{Bottom: bottom, Top: top, Bend: bend}
	}
	for i, c := range []struct {
		b            api.ToothBlade
		s            api.ToothSaw
		column, gain int
		e            api.Errno
	}{
		{example(), saw(2, 6, 1, 0), 2, 1, api.OK}, {plain(5, 0, 10), saw(2, 5, 0, 0), 0, 0, api.ErrNone}, {example(), saw(7, 6, 1, 0), 0, 0, api.ErrNone},
		{edges(20, []api.Span{to(0, 5), to(0, 5)}, same(2, to(10, 10))), saw(1, 5, 0, 0), 0, 1, api.OK}, // the first of two
		{edges(20, []api.Span{to(0, 1), to(0, 5)}, same(2, to(10, 10))), saw(1, 5, 0, 0), 0, 1, api.OK},
		{edges(20, []api.Span{to(0, 1), to(0, 5)}, same(2, to(10, 10))), saw(1, 4, 1, 0), 1, 1, api.OK},
		{edges(20, []api.Span{to(0, 1), to(0, 10)}, same(2, to(10, 10))), saw(1, 5, 0, 0), 1, 2, api.OK}, // the best, not the first
		{edges(20, same(2, to(0, 0)), []api.Span{to(9, 9), to(4, 5)}), saw(1, 5, 0, 0), 1, 1, api.OK},
		{edges(0, []api.Span{to(0, 5), to(0, 5)}, same(2, to(10, 10))), saw(1, 5, 0, 0), 0, 2, api.OK}, // the bend makes the neighbour known
		{edges(3, []api.Span{to(0, 9), to(6, 9)}, same(2, to(12, 12))), saw(1, 6, 0, 0), 0, 2, api.OK}, // it can be 3, and then it is 6 beside it
		{edges(3, []api.Span{to(0, 9), to(6, 9)}, same(2, to(12, 12))), saw(1, 10, 0, 0), 0, 0, api.ErrNone},
		{edges(20, []api.Span{to(0, 5), to(0, 5)}, same(2, to(10, 10))), saw(2, 10, 0, 0), 0, 0, api.ErrNone},
	} {
		if column, gain, e := tooth.Look(c.b, c.s); column != c.column || gain != c.gain || e != c.e {
			t.Error(i, column, gain, e)
		}
	}
}

// P1.11
func TestWidest(t *testing.T) {
	for i, c := range []struct {
		b      api.ToothBlade
		s      api.ToothSaw
		sticks int
		want   int
		e      api.Errno
	}{
		{example(), saw(2, 6, 1, 0), 9, 6, api.OK}, {example(), saw(2, 6, 1, 0), 8, 7, api.OK}, // example 6
		{example(), saw(2, 300, 1, 0), 9, 6, api.OK}, {example(), saw(2, 1, 1, 0), 9, 6, api.OK}, // its own width counts for nothing
		{plain(1, 0, 300), saw(1, 1, 0, 0), 1, 300, api.OK}, {plain(1, 0, 299), saw(1, 1, 0, 0), 1, 299, api.OK}, {plain(1, 0, 10), saw(1, 1, 0, 0), 10, 1, api.OK}, {plain(1, 0, 10), saw(1, 1, 0, 0), 11, 0, api.ErrNone}, {plain(1, 0, 10), saw(1, 1, 3, 0), 2, 3, api.OK}, {plain(1, 0, 0), saw(1, 1, 3, 0), 1, 0, api.ErrNone},
		{plain(2, 0, 200), saw(1, 1, 0, 0), api.MaxToothPlaces, 1, api.OK}, {plain(2, 0, 199), saw(1, 1, 0, 0), api.MaxToothPlaces, 0, api.ErrNone}, {example(), saw(7, 6, 1, 0), 1, 0, api.ErrNone},
		{example(), saw(2, 6, 1, 0), 0, 0, api.ErrArg}, {example(), saw(2, 6, 1, 0), -1, 0, api.ErrArg}, {example(), saw(2, 6, 1, 0), api.MaxToothPlaces + 1, 0, api.ErrArg}, {example(), saw(2, 6, 1, 0), api.MaxToothPlaces, 0, api.ErrNone}, {example(), saw(2, 301, 1, 0), 9, 0, api.ErrRange},
	} {
		if n, e := tooth.Widest(c.b, c.s, c.sticks); n != c.want || e != c.e {
			t.Error(i, n, e)
		}
	}
}
