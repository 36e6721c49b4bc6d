package pleat_test

import (
	"math"
	"slices"
	"testing"

	"panache/api"
	"panache/pleat"
)

const (
	unseen = api.PleatUnseen
	hit    = api.PleatHit
	spared = api.PleatSpared
)

func signs(l ...api.PleatSign) []api.PleatSign { return l }

func spans(l ...api.Span) []api.Span { return l }

// errorsOf returns the errors of all functions with a leaf and a mould, of which the signs are not valid, nor is the shift.
func errorsOf(l api.PleatLeaf, m api.PleatMould) []api.Errno {
	wrong := make([]api.PleatSign, 99)
	_, _, a := pleat.Hit(l, m, -1)
	_, _, b := pleat.Shifts(l, m)
	_, c := pleat.Against(l, m)
	_, _, d := pleat.Best(l, m)
	_, _, e := pleat.Margin(l, m)
	_, _, f := pleat.Choose(l, []api.PleatMould{m})
	_, g := pleat.Laid(l, m, wrong)
	_, _, h := pleat.Look(l, m, wrong)
	return []api.Errno{a, b, c, d, e, f, g, h}
}

func allAre(l []api.Errno, e api.Errno) bool {
	return !slices.ContainsFunc(l, func(f api.Errno) bool { return f != e })
}

// P3.1: all functions with a leaf have its errors first.
func TestCheck(t *testing.T) {
	nine := slices.Repeat([]api.PleatFace{known(0, 1)}, 9)
	for i, c := range []struct {
		leaf api.PleatLeaf
		e    api.Errno
	}{
		{example(), api.OK}, {leaf(1), api.OK}, {leaf(5000), api.OK}, {leaf(0), api.ErrRange}, {leaf(-1), api.ErrRange}, {leaf(5001), api.ErrRange}, {leaf(math.MinInt), api.ErrRange}, {leaf(math.MaxInt), api.ErrRange}, {api.PleatLeaf{}, api.ErrRange},
		{leaf(1, nine[:8]...), api.OK}, {leaf(1, nine...), api.ErrLong},
		{leaf(9, known(0, 9)), api.OK}, {leaf(9, known(8, 9)), api.OK}, {leaf(9, face(to(0, 4), to(5, 9))), api.OK}, {leaf(9, known(3, 5), known(4, 6), known(0, 9)), api.OK}, // one over another
		{leaf(9, face(to(0, 4), to(4, 9))), api.ErrArg}, {leaf(9, known(4, 4)), api.ErrArg}, {leaf(9, known(5, 4)), api.ErrArg}, {leaf(9, face(to(0, 6), to(5, 9))), api.ErrArg},
		{leaf(9, face(to(-1, 4), to(5, 9))), api.ErrArg}, {leaf(9, face(to(0, 4), to(5, 10))), api.ErrArg}, {leaf(9, known(3, 10)), api.ErrArg}, {leaf(9, face(to(4, 3), to(5, 9))), api.ErrArg}, {leaf(9, face(to(0, 4), to(9, 5))), api.ErrArg}, {leaf(9, known(10, 11)), api.ErrArg},
		{leaf(9, known(0, 1), known(0, 1), api.PleatFace{}), api.ErrArg}, {leaf(9, face(to(math.MinInt, math.MaxInt), to(math.MinInt, math.MaxInt))), api.ErrArg},
		{leaf(0, nine...), api.ErrRange}, {leaf(0, known(3, 2)), api.ErrRange}, {leaf(1, append(slices.Clone(nine), known(4, 2))...), api.ErrLong}, // the error that is named first
	} {
		if e := pleat.Check(c.leaf); e != c.e {
			t.Error(i, e)
		}
		if c.e == api.OK {
			continue
		}
		if l := errorsOf(c.leaf, api.PleatMould{Half: -1}); !allAre(l, c.e) {
			t.Error(i, l)
		}
		_, _, e := pleat.Choose(c.leaf, make([]api.PleatMould, 9))
		if _, f := pleat.Wet(c.leaf, api.Ratio{}, api.Ratio{}); e != c.e || f != c.e {
			t.Error(i, e, f)
		}
	}
}

// P3.1: all functions with a mould have its errors next.
func TestMould(t *testing.T) {
	var forty []int
	for k := range 40 {
		forty = append(forty, 125*(k+1))
	}
	for i, c := range []struct {
		mould api.PleatMould
		e     api.Errno
	}{
		{fiveGrooves(199), api.OK}, {mould(0, 0, 0, 0), api.OK}, {mould(50, 5000, 500, 5000), api.OK},
		{mould(-1, 0, 0, 0), api.ErrArg}, {mould(51, 0, 0, 0), api.ErrArg}, {mould(0, -1, 0, 0), api.ErrArg}, {mould(0, 5001, 0, 0), api.ErrArg}, {mould(0, 0, -1, 0), api.ErrArg}, {mould(0, 0, 501, 0), api.ErrArg},
		{mould(math.MaxInt, 0, 0, 0), api.ErrArg}, {mould(0, math.MaxInt, 0, 0), api.ErrArg}, {mould(0, 0, math.MaxInt, 0), api.ErrArg}, {mould(math.MinInt, math.MinInt, math.MinInt, 0), api.ErrArg},
		{mould(50, 25, 500, forty...), api.OK}, {mould(50, 26, 500, forty...), api.ErrForm}, {mould(0, 0, 0, append(forty, 5001)...), api.ErrForm}, {mould(0, 0, 0, slices.Concat([]int{0}, forty)...), api.ErrForm}, {mould(0, 0, 0), api.ErrForm},
		{mould(0, 0, 0, -1), api.ErrForm}, {mould(0, 0, 0, 5001), api.ErrForm}, {mould(0, 0, 0, 0, math.MaxInt), api.ErrForm}, {mould(0, 0, 0, math.MinInt, math.MaxInt), api.ErrForm},
		{mould(0, 0, 0, 3, 4), api.OK}, {mould(0, 0, 0, 3, 3), api.ErrForm}, {mould(0, 0, 0, 4, 3), api.ErrForm}, // by 1 at least
		{mould(2, 3, 0, 10, 17, 24), api.OK}, {mould(2, 3, 0, 10, 16, 24), api.ErrForm}, {mould(2, 3, 0, 10, 17, 23), api.ErrForm}, {mould(0, 1, 0, 3, 4), api.OK}, {mould(1, 0, 0, 3, 4), api.ErrForm}, {mould(1, 0, 0, 3, 5), api.OK},
		{mould(51, 0, 0), api.ErrArg}, {mould(0, 0, -1, 3, 3), api.ErrArg}, // the error that is named first
	} {
		if e := pleat.Mould(c.mould); e != c.e {
			t.Error(i, e)
		}
		if c.e == api.OK {
			continue
		}
		if l := errorsOf(example(), c.mould); !allAre(l, c.e) {
			t.Error(i, l)
		}
	}
}

// P3.2
func TestHit(t *testing.T) {
	for i, c := range []struct {
		leaf             api.PleatLeaf
		mould            api.PleatMould
		shift            int
		surely, possibly []int
		e                api.Errno
	}{
		{example(), fiveGrooves(199), 0, nil, nil, api.OK}, {example(), fiveGrooves(199), 97, []int{1}, []int{0, 1}, api.OK}, {example(), fiveGrooves(199), 120, []int{0, 1}, []int{0, 1, 2}, api.OK}, // example 1
		{example(), fiveGrooves(199), 95, nil, nil, api.OK}, {example(), fiveGrooves(199), 96, []int{1}, []int{0, 1}, api.OK}, {example(), fiveGrooves(199), 199, nil, nil, api.OK},
		{example(), fiveGrooves(199), -1, nil, nil, api.ErrRange}, {example(), fiveGrooves(199), 200, nil, nil, api.ErrRange}, {example(), fiveGrooves(0), 1, nil, nil, api.ErrRange}, {example(), fiveGrooves(199), math.MaxInt, nil, nil, api.ErrRange}, {example(), fiveGrooves(199), math.MinInt, nil, nil, api.ErrRange},
		{leaf(9), mould(3, 0, 5, 0), 5, nil, nil, api.OK},
		{leaf(9, known(3, 5)), mould(0, 0, 0, 3, 5), 0, nil, nil, api.OK}, {leaf(9, known(3, 5)), mould(0, 0, 0, 4), 0, []int{0}, []int{0}, api.OK}, {leaf(9, known(3, 4)), mould(0, 0, 0, 2, 3, 4, 5), 0, nil, nil, api.OK}, // folds without a width
		{leaf(9, known(3, 5)), mould(2, 0, 8, 0), 1, nil, nil, api.OK}, {leaf(9, known(3, 5)), mould(2, 0, 8, 0), 2, []int{0}, []int{0}, api.OK}, {leaf(9, known(3, 5)), mould(2, 0, 8, 0), 6, []int{0}, []int{0}, api.OK}, {leaf(9, known(3, 5)), mould(2, 0, 8, 0), 7, nil, nil, api.OK},
		{leaf(9, face(to(3, 6), to(7, 8))), mould(2, 0, 9, 0), 2, nil, []int{0}, api.OK}, {leaf(9, face(to(3, 6), to(7, 8))), mould(2, 0, 9, 0), 4, nil, []int{0}, api.OK}, {leaf(9, face(to(3, 6), to(7, 8))), mould(2, 0, 9, 0), 5, []int{0}, []int{0}, api.OK}, {leaf(9, face(to(3, 6), to(7, 8))), mould(2, 0, 9, 0), 9, nil, []int{0}, api.OK},
		{leaf(9, known(8, 9)), mould(2, 0, 0, 10), 0, []int{0}, []int{0}, api.OK}, {leaf(9, known(8, 9)), mould(2, 0, 1, 10), 1, nil, nil, api.OK}, {leaf(9, known(0, 1)), mould(2, 0, 0, 0), 0, []int{0}, []int{0}, api.OK}, // beyond an end of the leaf
		{leaf(20, known(0, 9), known(3, 6), known(12, 13), known(4, 5)), mould(1, 3, 3, 2, 9), 3, []int{0, 1, 2, 3}, []int{0, 1, 2, 3}, api.OK}, // one over another
	} {
		surely, possibly, e := pleat.Hit(c.leaf, c.mould, c.shift)
		if !slices.Equal(surely, c.surely) || !slices.Equal(possibly, c.possibly) || e != c.e {
			t.Error(i, surely, possibly, e)
		}
	}
}

// P3.3
func TestShifts(t *testing.T) {
	for i, c := range []struct {
		leaf             api.PleatLeaf
		mould            api.PleatMould
		surely, possibly []api.Span
	}{
		{example(), fiveGrooves(199), spans(to(0, 95), to(165, 199)), spans(to(0, 95), to(165, 199))}, // example 2
		{without(example(), 1), fiveGrooves(199), spans(to(0, 95), to(165, 199)), spans(to(0, 99), to(165, 199))},
		{only(example(), []int{0}), fiveGrooves(199), spans(to(0, 95), to(146, 199)), spans(to(0, 99), to(145, 199))},
		{only(example(), []int{1}), fiveGrooves(199), spans(to(0, 95), to(145, 199)), spans(to(0, 95), to(135, 199))},
		{only(example(), []int{2}), fiveGrooves(199), spans(to(0, 115), to(165, 199)), spans(to(0, 120), to(165, 199))},
		{leaf(9), mould(3, 0, 5, 0), spans(to(0, 5)), spans(to(0, 5))}, {leaf(9), mould(3, 0, 0, 0), spans(to(0, 0)), spans(to(0, 0))},
		{leaf(9, known(0, 9)), mould(3, 0, 5, 0), nil, nil}, {leaf(9, face(to(0, 6), to(7, 9))), mould(0, 0, 6, 1), nil, spans(to(0, 6))},
		{leaf(9, known(3, 5)), mould(0, 0, 6, 1), spans(to(0, 2), to(4, 6)), spans(to(0, 2), to(4, 6))},
		{leaf(5000, known(4999, 5000)), mould(50, 0, 500, 5000), spans(to(50, 500)), spans(to(50, 500))},
	} {
		surely, possibly, e := pleat.Shifts(c.leaf, c.mould)
		if !slices.Equal(surely, c.surely) || !slices.Equal(possibly, c.possibly) || e != api.OK {
			t.Error(i, surely, possibly, e)
		}
	}
}

// P3.4
func TestAgainst(t *testing.T) {
	fourth := face(to(190, 190), to(300, 300))
	// Folds that take 1 are on these from 10 + 2n to 12 + 2n.
	third := func(n int) api.PleatFace { return known(10+2*n, 12+2*n) }
	for i, c := range []struct {
		leaf  api.PleatLeaf
		mould api.PleatMould
		want  []int
		e     api.Errno
	}{
		{example(fourth), fiveGrooves(140), []int{0, 3}, api.OK}, {example(), fiveGrooves(140), nil, api.ErrNone}, {example(fourth), fiveGrooves(145), []int{0, 3}, api.OK}, // example 4
		{example(fourth), fiveGrooves(146), []int{0, 2, 3}, api.OK}, {example(fourth), fiveGrooves(164), []int{0, 2, 3}, api.OK}, {example(fourth), fiveGrooves(165), nil, api.ErrNone},
		{leaf(9), mould(3, 0, 5, 0), nil, api.ErrNone}, {leaf(9, known(3, 5)), mould(0, 0, 6, 1), nil, api.ErrNone},
		{leaf(9, known(8, 9), known(0, 9)), mould(3, 0, 5, 0), []int{1}, api.OK}, {leaf(9, known(0, 9), known(0, 9)), mould(3, 0, 5, 0), []int{0}, api.OK},
		{leaf(20, third(0), third(1), third(2)), mould(1, 0, 4, 11), []int{0, 1, 2}, api.OK}, {leaf(20, third(0), third(1), third(2)), mould(1, 0, 3, 11), []int{0, 1}, api.OK},
		{leaf(20, third(0), third(1), third(2), known(10, 12)), mould(1, 0, 6, 11), nil, api.ErrNone}, {leaf(20, third(2), third(0), third(1), known(10, 12)), mould(1, 0, 5, 11), []int{0, 1, 2}, api.OK},
		{leaf(20, known(10, 12), known(12, 13), known(14, 15), known(13, 14)), mould(0, 0, 0, 11), []int{0}, api.OK},
		{leaf(20, known(10, 12), known(11, 13), known(12, 14), known(13, 15)), mould(0, 0, 2, 11), []int{0, 1, 2}, api.OK}, {leaf(20, known(13, 15), known(11, 13), known(10, 12), known(12, 14)), mould(0, 0, 2, 11), []int{1, 2, 3}, api.OK},
		{leaf(20, known(10, 12), known(11, 13), known(10, 13), known(12, 14), known(12, 14)), mould(0, 0, 2, 11), []int{2, 3}, api.OK}, // fewer, not smaller
		{leaf(9, face(to(0, 6), to(7, 9))), mould(0, 0, 6, 1), []int{0}, api.OK},                                                       // possibly hit by each shift, surely by one
	} {
		if l, e := pleat.Against(c.leaf, c.mould); !slices.Equal(l, c.want) || e != c.e {
			t.Error(i, l, e)
		}
	}
}

// P3.5
func TestBest(t *testing.T) {
	for i, c := range []struct {
		leaf         api.PleatLeaf
		mould        api.PleatMould
		shift, faces int
	}{
		{example(), fiveGrooves(199), 0, 3}, // example 3
		{example(face(to(190, 190), to(300, 300))), fiveGrooves(140), 0, 3},
		{leaf(9), mould(3, 0, 5, 0), 0, 0}, {leaf(9, known(0, 9)), mould(3, 0, 5, 0), 0, 0}, {leaf(9, known(0, 9), known(0, 1)), mould(1, 0, 5, 0), 2, 1},
		{leaf(9, known(0, 3), known(1, 3), known(5, 7)), mould(1, 0, 6, 0), 4, 3}, {leaf(9, known(0, 4), known(1, 3), known(4, 7)), mould(1, 0, 6, 0), 0, 2}, {leaf(9, known(5, 6), known(0, 3)), mould(1, 0, 3, 1), 3, 2}, {leaf(9, known(5, 6), known(0, 3)), mould(1, 0, 2, 1), 0, 1},
		{leaf(9, face(to(0, 6), to(7, 9))), mould(0, 0, 6, 1), 0, 0}, {leaf(9, face(to(0, 6), to(7, 9)), known(6, 9)), mould(0, 0, 6, 7), 2, 2},
	} {
		if shift, faces, e := pleat.Best(c.leaf, c.mould); shift != c.shift || faces != c.faces || e != api.OK {
			t.Error(i, shift, faces, e)
		}
	}
}

// P3.6
func TestMargin(t *testing.T) {
	for i, c := range []struct {
		leaf          api.PleatLeaf
		mould         api.PleatMould
		shift, margin int
		e             api.Errno
	}{
		{example(), fiveGrooves(199), 30, 65, api.OK},                                                                  // example 3
		{leaf(9), mould(3, 0, 5, 0), 0, 5000, api.OK}, {leaf(5000), mould(50, 25, 500, 0, 200, 5000), 0, 5000, api.OK}, // no faces
		{leaf(9, known(0, 9)), mould(3, 0, 5, 0), 0, 0, api.ErrNone}, {leaf(9, known(3, 5)), mould(0, 0, 3, 4), 3, 2, api.OK}, // 7 is 2 from 5
		{leaf(9, known(3, 5)), mould(0, 0, 1, 4), 1, 0, api.OK}, {leaf(9, known(3, 5)), mould(0, 0, 0, 4), 0, 0, api.ErrNone}, {leaf(9, face(to(2, 3), to(5, 6))), mould(0, 0, 1, 5), 1, 0, api.OK}, {leaf(9, face(to(2, 3), to(5, 6))), mould(0, 0, 0, 5), 0, 0, api.ErrNone},
		{leaf(20, known(8, 9)), mould(1, 0, 18, 0), 18, 8, api.OK}, {leaf(20, known(8, 9)), mould(1, 0, 17, 0), 0, 7, api.OK}, {leaf(20, known(0, 4), known(14, 18)), mould(1, 0, 18, 0), 9, 4, api.OK}, {leaf(20, known(0, 4), known(15, 18)), mould(1, 0, 18, 0), 9, 4, api.OK},
		{leaf(5000, known(0, 1)), mould(0, 0, 500, 5000), 1, 5000, api.OK}, {leaf(5000, known(0, 1)), mould(50, 0, 500, 5000), 51, 5000, api.OK}, {leaf(5000, known(0, 1)), mould(0, 0, 0, 5000), 0, 4999, api.OK}, // at most MaxPleatLong
	} {
		if shift, margin, e := pleat.Margin(c.leaf, c.mould); shift != c.shift || margin != c.margin || e != c.e {
			t.Error(i, shift, margin, e)
		}
	}
}

// P3.7
func TestChoose(t *testing.T) {
	moulds := func(l ...api.PleatMould) []api.PleatMould { return l }
	full, wrong, formless := mould(50, 0, 5, 100), mould(0, 0, -1, 0), mould(0, 0, 0)
	nine := slices.Repeat(moulds(fiveGrooves(199)), 9)
	hundred := leaf(200, known(60, 140))
	for i, c := range []struct {
		leaf          api.PleatLeaf
		moulds        []api.PleatMould
		mould, shifts int
		e             api.Errno
	}{
		{example(), moulds(fiveGrooves(199)), 0, 131, api.OK}, {example(), moulds(fiveGrooves(100), fiveGrooves(199), fiveGrooves(199)), 1, 131, api.OK}, {example(), moulds(fiveGrooves(199), fiveGrooves(100), fiveGrooves(199)), 0, 131, api.OK},
		{example(), moulds(fiveGrooves(0), fiveGrooves(95), fiveGrooves(150)), 1, 96, api.OK}, {leaf(1), moulds(fiveGrooves(0), fiveGrooves(500)), 1, 501, api.OK},
		{hundred, moulds(full, fiveGrooves(0), full), 1, 1, api.OK}, {hundred, moulds(full, full), 0, 0, api.ErrNone}, {hundred, nil, 0, 0, api.ErrNone},
		{example(), nine[:8], 0, 131, api.OK}, {example(), nine, 0, 0, api.ErrLong}, {example(), append(slices.Clone(nine), wrong), 0, 0, api.ErrLong},
		{example(), moulds(fiveGrooves(0), wrong, formless), 0, 0, api.ErrArg}, {example(), moulds(fiveGrooves(0), formless, wrong), 0, 0, api.ErrForm}, {hundred, moulds(full, formless), 0, 0, api.ErrForm}, // of the first one that has one
	} {
		if n, shifts, e := pleat.Choose(c.leaf, c.moulds); n != c.mould || shifts != c.shifts || e != c.e {
			t.Error(i, n, shifts, e)
		}
	}
}

// P3.8
func TestLaid(t *testing.T) {
	doubt := leaf(9, face(to(2, 4), to(6, 7)))
	for i, c := range []struct {
		leaf  api.PleatLeaf
		mould api.PleatMould
		seen  []api.PleatSign
		want  []api.Span
		e     api.Errno
	}{
		{example(), fiveGrooves(199), signs(hit, unseen, spared), spans(to(96, 120)), api.OK}, // example 5
		{example(), fiveGrooves(199), signs(unseen, unseen, unseen), spans(to(0, 199)), api.OK}, {example(), fiveGrooves(199), signs(spared, spared, spared), spans(to(0, 95), to(165, 199)), api.OK}, {example(), fiveGrooves(199), signs(hit, hit, hit), spans(to(116, 144)), api.OK},
		{example(), fiveGrooves(199), signs(hit, spared, spared), nil, api.ErrState}, {example(), fiveGrooves(199), signs(spared, hit, unseen), spans(to(96, 99)), api.OK}, {example(), fiveGrooves(199), signs(spared, unseen, hit), spans(to(145, 164)), api.OK},
		{doubt, mould(0, 0, 9, 0), signs(hit), spans(to(3, 6)), api.OK}, {doubt, mould(0, 0, 9, 0), signs(spared), spans(to(0, 4), to(6, 9)), api.OK}, // 3, 4 and 6 can be both
		{leaf(9), mould(0, 0, 9, 0), nil, spans(to(0, 9)), api.OK}, {leaf(9, known(4, 6)), mould(0, 0, 4, 0), signs(hit), nil, api.ErrState}, {leaf(9, known(4, 6)), mould(0, 0, 0, 5), signs(spared), nil, api.ErrState},
		{example(), fiveGrooves(199), signs(unseen, unseen), nil, api.ErrForm}, {example(), fiveGrooves(199), signs(unseen, unseen, unseen, unseen), nil, api.ErrForm}, {example(), fiveGrooves(199), nil, nil, api.ErrForm}, {leaf(9), mould(0, 0, 9, 0), signs(unseen), nil, api.ErrForm},
		{example(), fiveGrooves(199), signs(unseen, 3, unseen), nil, api.ErrForm}, {example(), fiveGrooves(199), signs(unseen, unseen, -1), nil, api.ErrForm}, {example(), fiveGrooves(199), signs(hit, spared, 3), nil, api.ErrForm}, {example(), fiveGrooves(199), signs(math.MinInt, hit, math.MaxInt), nil, api.ErrForm},
	} {
		l, e := pleat.Laid(c.leaf, c.mould, c.seen)
		if !slices.Equal(l, c.want) || e != c.e {
			t.Error(i, l, e)
		}
		if n, left, e := pleat.Look(c.leaf, c.mould, c.seen); c.e != api.OK && (n != 0 || left != 0 || e != c.e) {
			t.Error(i, "look", n, left, e)
		}
	}
}

// P3.9
func TestLook(t *testing.T) {
	ten := mould(0, 0, 9, 0)
	for i, c := range []struct {
		leaf       api.PleatLeaf
		mould      api.PleatMould
		seen       []api.PleatSign
		face, left int
		e          api.Errno
	}{
		// Spared can be the face 0 with 100 + 55 shifts, the face 1 with 96 + 65, the face 2 with 121 + 35.
		{example(), fiveGrooves(199), signs(unseen, unseen, unseen), 0, 155, api.OK}, {example(), fiveGrooves(199), signs(unseen, spared, unseen), 2, 131, api.OK}, {example(), fiveGrooves(199), signs(hit, unseen, spared), 0, 0, api.ErrNone},
		{example(), fiveGrooves(199), signs(hit, hit, hit), 0, 0, api.ErrNone}, {leaf(9), ten, nil, 0, 0, api.ErrNone},
		{leaf(9, known(1, 7)), ten, signs(unseen), 0, 5, api.OK}, {leaf(9, known(1, 7)), ten, signs(spared), 0, 0, api.ErrNone}, {leaf(9, known(8, 9)), ten, signs(unseen), 0, 0, api.ErrNone}, // never hit
		{leaf(9, known(1, 3), known(1, 6), known(0, 5), known(3, 9)), ten, signs(unseen, unseen, unseen, unseen), 3, 5, api.OK}, {leaf(9, known(1, 3), known(1, 6), known(0, 5), known(3, 9)), ten, signs(unseen, unseen, unseen, hit), 1, 3, api.OK}, // the first one of several
		{leaf(9, known(1, 3), known(1, 6), known(0, 5), known(3, 9)), ten, signs(spared, unseen, unseen, unseen), 3, 5, api.OK},
		{leaf(9, face(to(0, 1), to(8, 9)), known(6, 8)), mould(0, 0, 0, 1), signs(unseen, unseen), 0, 0, api.ErrNone}, {leaf(9, face(to(0, 4), to(5, 9)), known(6, 8)), ten, signs(unseen, unseen), 1, 9, api.OK},
		{leaf(9, face(to(0, 4), to(5, 9))), mould(0, 0, 7, 1), signs(unseen), 0, 0, api.ErrNone}, // hit or spared, with each
	} {
		if n, left, e := pleat.Look(c.leaf, c.mould, c.seen); n != c.face || left != c.left || e != c.e {
			t.Error(i, n, left, e)
		}
	}
}

// P3.10
func TestWet(t *testing.T) {
	one := ratio(1, 1)
	for i, c := range []struct {
		leaf        api.PleatLeaf
		least, most api.Ratio
		want        api.PleatLeaf
		e           api.Errno
	}{
		{example(), one, ratio(101, 100), leaf(1010, face(to(100, 106), to(140, 143)), face(to(300, 303), to(330, 344)), face(to(520, 531), to(560, 566))), api.OK}, // example 6
		{example(), one, one, example(), api.OK}, {leaf(7), ratio(1, 1000), ratio(2000, 1000), leaf(14), api.OK}, {leaf(7), ratio(1, 2), ratio(1, 2), leaf(4), api.OK}, {leaf(1), ratio(1, 1000), ratio(1, 1000), leaf(1), api.OK},
		{leaf(9, known(3, 7)), ratio(1, 2), ratio(1, 2), leaf(5, face(to(1, 2), to(3, 4))), api.OK}, {leaf(9, known(0, 9)), ratio(2, 3), ratio(4, 5), leaf(8, face(to(0, 0), to(6, 8))), api.OK}, {leaf(9, known(2, 4)), ratio(3, 2), ratio(2, 1), leaf(18, face(to(3, 4), to(6, 8))), api.OK},
		{leaf(2500, known(2000, 2500)), ratio(2, 1), ratio(2000, 1000), leaf(5000, known(4000, 5000)), api.OK}, {leaf(2501), one, ratio(2, 1), leaf(0), api.ErrFull}, {leaf(5000), one, one, leaf(5000), api.OK}, {leaf(5000), one, ratio(1000, 999), leaf(0), api.ErrFull}, {leaf(4995), one, ratio(1000, 999), leaf(5000), api.OK}, {leaf(4996), one, ratio(1000, 999), leaf(0), api.ErrFull},
		{leaf(9), ratio(1, 0), one, leaf(0), api.ErrRange}, {leaf(9), ratio(1, 1001), one, leaf(0), api.ErrRange}, {leaf(9), ratio(-1, -1), one, leaf(0), api.ErrRange}, {leaf(9), ratio(0, 1), one, leaf(0), api.ErrRange}, {leaf(9), ratio(-1, 1), one, leaf(0), api.ErrRange}, {leaf(9), one, ratio(3, 1), leaf(0), api.ErrRange}, {leaf(9), one, ratio(2001, 1000), leaf(0), api.ErrRange}, {leaf(9), one, ratio(2, 0), leaf(0), api.ErrRange}, {leaf(9), one, ratio(1002, 1001), leaf(0), api.ErrRange},
		{leaf(9), ratio(math.MinInt, math.MaxInt), ratio(math.MaxInt, math.MaxInt), leaf(0), api.ErrRange}, {leaf(9), one, ratio(1, math.MinInt), leaf(0), api.ErrRange},
		{leaf(9), ratio(2, 3), ratio(3, 5), leaf(0), api.ErrRange}, {leaf(9), ratio(2, 3), ratio(4, 6), leaf(6), api.OK}, {leaf(9), ratio(999, 1000), ratio(998, 999), leaf(0), api.ErrRange}, {leaf(1), ratio(998, 999), ratio(999, 1000), leaf(1), api.OK}, // least above most
		{leaf(9, known(3, 5)), ratio(1, 2), one, leaf(0), api.ErrState}, {leaf(9, known(3, 6)), ratio(1, 2), one, leaf(0), api.ErrState}, {leaf(9, known(3, 8)), ratio(1, 2), one, leaf(9, face(to(1, 3), to(4, 8))), api.OK}, {leaf(9, known(0, 9), known(3, 4)), ratio(1, 2), ratio(1, 2), leaf(0), api.ErrState}, {leaf(9, known(0, 1)), ratio(1, 2), one, leaf(0), api.ErrState},
		{leaf(2501, known(3, 5)), ratio(2, 1), one, leaf(0), api.ErrRange}, {leaf(2501, known(3, 5)), ratio(1, 2), ratio(2, 1), leaf(0), api.ErrFull}, // the error that is named first
	} {
		l, e := pleat.Wet(c.leaf, c.least, c.most)
		if l.Long != c.want.Long || !slices.Equal(l.Faces, c.want.Faces) || e != c.e {
			t.Error(i, l, e)
		}
	}
}
