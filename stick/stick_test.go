package stick_test

import (
	"math"
	"slices"
	"strings"
	"testing"

	"panache/api"
	"panache/stick"
)

// The rows of the chapter's examples.
var (
	first  = row(mark(1, 1, 3), mark(3, 2, 2), mark(1, 2, 5))
	second = row(mark(1, 2, 3), mark(1, 2, 3))
	third  = row(mark(1, 5, 6), mark(1, 1, 4), mark(1, 7, 9))
)

// P2.1: all functions with a row have its errors first.
func TestCheck(t *testing.T) {
	wide := mark(15, 1, 12)
	for i, c := range []struct {
		row []api.StickMark
		e   api.Errno
	}{
		{nil, api.OK}, {first, api.OK}, {second, api.OK}, {third, api.OK},
		{slices.Repeat(row(wide), api.MaxStickRow), api.OK}, {slices.Repeat(row(wide), api.MaxStickRow+1), api.ErrLong},
		{row(mark(1, 1, 1)), api.OK}, {row(mark(15, 12, 12)), api.OK}, {row(mark(0, 1, 1)), api.ErrArg}, {row(mark(16, 1, 1)), api.ErrArg}, {row(mark(-1, 1, 1)), api.ErrArg},
		{row(mark(1, 0, 1)), api.ErrArg}, {row(mark(1, 12, 13)), api.ErrArg}, {row(mark(1, 3, 2)), api.ErrArg}, {row(mark(1, math.MinInt, math.MaxInt)), api.ErrArg}, {row(wide, wide, mark(1, 0, 0)), api.ErrArg},
		{row(mark(1, 2, 2), mark(1, 2, 3), mark(1, 2, 3)), api.ErrState}, // example 2
		{row(mark(1, 2, 2), mark(1, 2, 2)), api.ErrState}, {row(mark(1, 2, 2), mark(3, 2, 2)), api.OK}, {row(mark(3, 2, 2), mark(3, 2, 2)), api.OK}, {row(mark(3, 2, 2), mark(3, 2, 2), mark(3, 2, 2)), api.ErrState},
		{row(mark(1, 1, 4), mark(1, 1, 3), mark(1, 1, 2), mark(1, 1, 1)), api.OK}, {row(mark(1, 1, 3), mark(1, 1, 3), mark(1, 1, 2), mark(1, 1, 1)), api.ErrState},
		{row(wide, wide, wide, wide, wide, wide, mark(4, 7, 7), mark(4, 7, 7)), api.ErrState},
		{slices.Repeat(row(mark(1, 0, 0)), api.MaxStickRow+1), api.ErrLong}, {row(mark(1, 2, 2), mark(1, 2, 2), mark(1, 2, 13)), api.ErrArg}, // the error that is named first
	} {
		_, _, a := stick.Right(c.row)
		_, b := stick.First(c.row)
		_, d := stick.Out(c.row)
		_, f := stick.Can(c.row, -1)
		_, _, g := stick.Looks(c.row)
		if e := stick.Check(c.row); e != c.e || a != c.e || d != c.e {
			t.Error(i, e, a, d)
		}
		if c.e != api.OK && (b != c.e || f != c.e || g != c.e) {
			t.Error(i, b, f, g)
		}
	}
}

// P2.2, P2.3 and P2.4
func TestRightFirstOut(t *testing.T) {
	for i, c := range []struct {
		row              []api.StickMark
		surely, possibly bool
		first            int // -1 if there is none
		out              []int
	}{
		{nil, true, true, -1, nil}, {row(mark(15, 1, 12)), true, true, -1, nil},
		{first, false, true, -1, nil}, {second, false, true, -1, nil}, {third, false, false, 1, []int{0}}, // examples 1 to 3
		{row(mark(1, 1, 2), mark(1, 3, 4)), true, true, -1, nil}, {row(mark(1, 1, 3), mark(1, 3, 4)), true, true, -1, nil}, // no two have one place
		{row(mark(1, 1, 3), mark(1, 2, 4)), false, true, -1, nil}, {row(mark(3, 1, 2), mark(3, 3, 4)), false, true, -1, nil}, {row(mark(1, 1, 2), mark(2, 3, 4)), false, false, 1, []int{0}},
		{row(mark(1, 1, 1), mark(1, 1, 2), mark(1, 1, 3)), true, true, -1, nil}, // the others leave just one place
		{row(mark(1, 2, 2), mark(1, 1, 1), mark(1, 3, 3)), false, false, 1, []int{0}},
		{row(mark(1, 1, 1), mark(1, 3, 3), mark(1, 2, 2)), false, false, 2, []int{1}},
		{row(mark(1, 1, 1), mark(1, 3, 3), mark(1, 2, 2), mark(1, 4, 4)), false, false, 2, []int{1}},
		{row(mark(1, 1, 1), mark(2, 2, 2), mark(4, 3, 3)), false, false, 1, []int{0, 1}},
		{row(mark(3, 1, 1), mark(5, 2, 2), mark(6, 3, 3)), false, false, 2, []int{0}}, // each two, but not all
		{row(mark(1, 1, 2), mark(1, 1, 2), mark(1, 1, 3), mark(2, 3, 3)), false, false, 3, []int{3}},
		{row(mark(1, 3, 3), mark(1, 1, 2), mark(1, 1, 2)), false, false, 1, []int{0}},
		{row(mark(1, 1, 1), mark(1, 2, 3), mark(1, 2, 2)), false, false, 2, []int{1}}, // alone it could be 2: the row leaves it 3
		{row(mark(1, 1, 2), mark(3, 2, 2), mark(1, 1, 1)), false, false, 1, []int{2}}, // of their own the first two can be 1 and 2: in the row the last one has 1
	} {
		surely, possibly, e := stick.Right(c.row)
		if surely != c.surely || possibly != c.possibly || e != api.OK {
			t.Error(i, surely, possibly, e)
		}
		want, none := c.first, api.OK
		if c.first < 0 {
			want, none = 0, api.ErrNone
		}
		if k, e := stick.First(c.row); k != want || e != none {
			t.Error(i, "first", k, e)
		}
		if out, e := stick.Out(c.row); !slices.Equal(out, c.out) || e != api.OK {
			t.Error(i, "out", out, e)
		}
	}
}

// P2.5
func TestCan(t *testing.T) {
	for i, c := range []struct {
		row   []api.StickMark
		stick int
		want  []api.StickSpot
		e     api.Errno
	}{
		{first, 1, []api.StickSpot{spot(0, 2), spot(1, 2)}, api.OK}, // example 1
		{first, 0, []api.StickSpot{spot(0, 1), spot(0, 2), spot(0, 3)}, api.OK}, {first, 2, []api.StickSpot{spot(0, 2), spot(0, 3), spot(0, 4), spot(0, 5)}, api.OK},
		{row(mark(13, 11, 12)), 0, []api.StickSpot{spot(0, 11), spot(0, 12), spot(2, 11), spot(2, 12), spot(3, 11), spot(3, 12)}, api.OK},
		{row(mark(3, 2, 3), mark(1, 2, 2)), 0, []api.StickSpot{spot(0, 3), spot(1, 2), spot(1, 3)}, api.OK},
		{row(mark(1, 1, 4), mark(1, 2, 3), mark(1, 2, 3)), 0, []api.StickSpot{spot(0, 1), spot(0, 4)}, api.OK}, // two share both places
		{row(mark(1, 2, 3), mark(1, 2, 3), mark(1, 1, 4)), 0, []api.StickSpot{spot(0, 2), spot(0, 3)}, api.OK},
		{first, 3, nil, api.ErrNone}, {first, -1, nil, api.ErrNone}, {first, math.MaxInt, nil, api.ErrNone}, {first, math.MinInt, nil, api.ErrNone}, {nil, 0, nil, api.ErrNone},
		{row(mark(1, 2, 2), mark(1, 2, 2)), 7, nil, api.ErrState},
	} {
		if l, e := stick.Can(c.row, c.stick); !slices.Equal(l, c.want) || e != c.e {
			t.Error(i, l, e)
		}
	}
}

// P2.6
func TestLooks(t *testing.T) {
	for i, c := range []struct {
		row         []api.StickMark
		many, first int
		e           api.Errno
	}{
		{nil, 0, -1, api.OK}, {row(mark(15, 1, 12)), 0, -1, api.OK}, {second, 1, 0, api.OK}, {third, 0, -1, api.OK}, // example 2
		{first, 2, 0, api.OK},
		{row(mark(1, 1, 1), mark(3, 2, 2)), 1, 1, api.OK}, {row(mark(3, 1, 1), mark(3, 2, 2)), 2, 0, api.OK}, {row(mark(3, 1, 1), mark(1, 2, 2)), 1, 0, api.OK},
		{row(mark(1, 1, 1), mark(1, 2, 2), mark(3, 3, 3), mark(1, 4, 4)), 1, 2, api.OK},
		{row(mark(1, 1, 3), mark(1, 2, 2)), 1, 0, api.OK}, {row(mark(1, 1, 4), mark(1, 1, 4)), 2, 0, api.OK},
		{row(mark(1, 1, 2), mark(1, 1, 3), mark(1, 1, 3)), 1, 1, api.OK},
		{row(mark(1, 1, 2), mark(1, 1, 2), mark(3, 4, 4)), 2, 0, api.OK}, // the last one alone may leave it open
		{row(mark(1, 1, 1), mark(1, 2, 12), mark(1, 3, 12)), 2, 1, api.OK},
		{slices.Repeat(row(mark(15, 1, 12)), 1), 0, -1, api.OK}, {slices.Repeat(row(mark(15, 1, 12)), 2), 0, 0, api.ErrFull}, {slices.Repeat(row(mark(15, 1, 12)), 8), 0, 0, api.ErrFull},
		{row(mark(1, 1, 10), mark(2, 1, 10), mark(4, 1, 5)), 0, -1, api.OK},                                             // 500 truths
		{row(mark(3, 1, 6), mark(6, 6, 12), mark(8, 1, 3)), 0, 0, api.ErrFull},                                          // 501
		{slices.Repeat(row(mark(1, 1, 5)), 5), 4, 0, api.OK}, {slices.Repeat(row(mark(1, 1, 6)), 6), 0, 0, api.ErrFull}, // 120, and 720
		{slices.Repeat(row(mark(15, 1, 12)), api.MaxStickRow+1), 0, 0, api.ErrLong}, {row(mark(0, 1, 1)), 0, 0, api.ErrArg}, {row(mark(1, 1, 1), mark(1, 1, 1)), 0, 0, api.ErrState},
	} {
		if many, first, e := stick.Looks(c.row); many != c.many || first != c.first || e != c.e {
			t.Error(i, many, first, e)
		}
	}
}

// P2.7: the errors of both, in their order.
func TestFansErrors(t *testing.T) {
	all := func(places int) []api.StickCut {
		var l []api.StickCut
		for tooth := range api.MaxStickTeeth {
			for place := 1; place <= places; place++ {
				l = append(l, cut(tooth, place, 500))
			}
		}
		return l
	}
	for i, c := range []struct {
		cuts []api.StickCut
		f    api.StickFan
		e    api.Errno
	}{
		{nil, fan(2, 0, 0), api.OK}, {all(6), fan(12, 100, 1000), api.OK}, {append(all(6), cut(0, 7, 1)), fan(2, 0, 0), api.ErrLong}, {slices.Repeat(all(6), 2), fan(0, -1, -1), api.ErrLong}, {make([]api.StickCut, 25), fan(2, 0, 0), api.ErrLong},
		{[]api.StickCut{cut(0, 1, 1), cut(3, 12, 1000)}, fan(2, 0, 0), api.OK},
		{[]api.StickCut{cut(-1, 1, 1)}, fan(2, 0, 0), api.ErrArg}, {[]api.StickCut{cut(4, 1, 1)}, fan(2, 0, 0), api.ErrArg}, {[]api.StickCut{cut(0, 0, 1)}, fan(2, 0, 0), api.ErrArg}, {[]api.StickCut{cut(0, 13, 1)}, fan(2, 0, 0), api.ErrArg},
		{[]api.StickCut{cut(0, 1, 0)}, fan(2, 0, 0), api.ErrArg}, {[]api.StickCut{cut(0, 1, 1001)}, fan(2, 0, 0), api.ErrArg}, {[]api.StickCut{cut(0, 1, 1), cut(0, 1, 1), cut(0, 1, -1)}, fan(0, 0, 0), api.ErrArg},
		{[]api.StickCut{cut(0, 1, 1), cut(0, 1, 1)}, fan(2, 0, 0), api.ErrTwice}, {[]api.StickCut{cut(0, 1, 1), cut(1, 1, 1), cut(0, 1, 2)}, fan(0, 0, 0), api.ErrTwice}, {[]api.StickCut{cut(0, 1, 1), cut(1, 1, 1), cut(0, 2, 1)}, fan(2, 0, 0), api.OK},
		{nil, fan(1, 0, 0), api.ErrRange}, {nil, fan(13, 0, 0), api.ErrRange}, {nil, fan(2, -1, 0), api.ErrRange}, {nil, fan(2, 101, 0), api.ErrRange}, {nil, fan(2, 0, -1), api.ErrRange}, {nil, fan(2, 0, 1001), api.ErrRange}, {nil, fan(12, 100, 1000), api.OK},
	} {
		n, e := stick.Most(c.cuts, c.f)
		fans, f := stick.Fans(c.cuts, c.f)
		if e != c.e || f != c.e || n != len(fans) || e != api.OK && n != 0 {
			t.Error(i, n, fans, e, f)
		}
	}
}

// P2.7
func TestFans(t *testing.T) {
	four := []api.StickCut{cut(0, 1, 100), cut(0, 2, 130), cut(0, 3, 104), cut(0, 4, 102)}
	even := func(tooth, places int) []api.StickCut {
		var l []api.StickCut
		for place := places; place > 0; place-- {
			l = append(l, cut(tooth, place, 500))
		}
		return l
	}
	for i, c := range []struct {
		cuts []api.StickCut
		f    api.StickFan
		want int
	}{
		{nil, fan(2, 0, 1000), 0}, {four, fan(2, 1, 6), 1}, {four, fan(2, 1, 4), 1}, {four, fan(2, 1, 3), 0}, {four, fan(2, 2, 6), 1}, {four, fan(2, 3, 6), 0}, // example 4
		{four, fan(2, 1, 27), 1}, {four, fan(2, 1, 28), 2}, {four, fan(3, 1, 6), 1}, {four, fan(3, 1, 5), 0}, {four, fan(4, 1, 32), 1}, {four, fan(4, 1, 31), 0}, {four, fan(5, 0, 1000), 0},
		{even(3, 12), fan(12, 0, 0), 1}, {even(3, 12), fan(2, 0, 0), 6}, {even(3, 11), fan(2, 0, 0), 5}, {even(3, 11), fan(12, 0, 0), 0}, {even(3, 12), fan(5, 0, 0), 2}, {even(3, 12), fan(2, 1, 1), 0}, {even(3, 12), fan(2, 100, 200), 6}, {even(3, 12), fan(2, 100, 199), 0},
		{append(even(0, 12), even(2, 12)...), fan(12, 0, 0), 2}, {append(even(0, 7), even(2, 5)...), fan(6, 0, 0), 1}, {append(even(0, 7), even(2, 5)...), fan(12, 0, 0), 0}, // of one tooth
		{[]api.StickCut{cut(0, 1, 1), cut(0, 2, 3), cut(0, 3, 4), cut(0, 4, 6), cut(0, 5, 7), cut(0, 6, 20)}, fan(2, 0, 1), 2},
		{[]api.StickCut{cut(0, 1, 2), cut(0, 2, 4), cut(0, 3, 6), cut(0, 4, 8)}, fan(2, 0, 2), 2}, // not 4 with 6
		{[]api.StickCut{cut(0, 1, 1), cut(0, 2, 1000)}, fan(2, 0, 999), 1}, {[]api.StickCut{cut(0, 1, 1), cut(0, 2, 1000)}, fan(2, 0, 998), 0}, {[]api.StickCut{cut(0, 1, 1), cut(1, 2, 1)}, fan(2, 0, 1000), 0},
	} {
		n, e := stick.Most(c.cuts, c.f)
		fans, f := stick.Fans(c.cuts, c.f)
		if n != c.want || len(fans) != n || e != api.OK || f != api.OK {
			t.Error(i, n, fans, e, f)
		}
		checkFans(t, c.cuts, c.f, fans)
	}
	if fans, _ := stick.Fans([]api.StickCut{cut(1, 7, 9), cut(0, 3, 9), cut(1, 2, 9), cut(0, 9, 9)}, fan(2, 0, 0)); !slices.EqualFunc(fans, [][]int{{1, 3}, {2, 0}}, slices.Equal[[]int]) {
		t.Error(fans)
	}
}

// checkFans checks that fans are some, no stick is in two, and all are in their order.
func checkFans(t *testing.T, cuts []api.StickCut, f api.StickFan, fans [][]int) {
	t.Helper()
	used := map[int]bool{}
	for _, l := range fans {
		byPlace := func(k, l int) int { return cuts[k].Place - cuts[l].Place }
		if !isFan(cuts, f, l) || !slices.IsSortedFunc(l, byPlace) {
			t.Error(cuts, f, fans)
		}
		for _, k := range l {
			if used[k] {
				t.Error("twice", k, cuts, f, fans)
			}
			used[k] = true
		}
	}
	if !slices.IsSortedFunc(fans, slices.Compare[[]int]) {
		t.Error("order", fans)
	}
}

// P2.8
func TestWhole(t *testing.T) {
	for i, c := range []struct {
		l    api.StickLoss
		n    int
		want api.Span
		e    api.Errno
	}{
		{loss(10, 1), 25, to(22, 25), api.OK}, {loss(10, 1), 24, to(21, 24), api.OK}, {loss(10, 1), 20, to(18, 20), api.OK}, {loss(10, 1), 21, to(18, 21), api.OK}, // example 5
		{loss(10, 4), 23, to(12, 23), api.OK}, {loss(10, 4), 24, to(12, 24), api.OK}, {loss(10, 4), 25, to(13, 25), api.OK}, {loss(2, 1), 5, to(2, 5), api.OK},
		{loss(10, 0), 25, to(25, 25), api.OK}, {loss(10, 10), 25, to(0, 25), api.OK}, {loss(10, 10), 5, to(0, 5), api.OK}, {loss(10, 3), 2, to(0, 2), api.OK}, {loss(10, 3), 0, to(0, 0), api.OK},
		{loss(10, 1), api.MaxStickMany, to(900000, 1000000), api.OK}, {loss(10, 1), api.MaxStickMany + 1, to(0, 0), api.ErrRange}, {loss(10, 1), -1, to(0, 0), api.ErrRange}, {loss(10, 1), math.MinInt, to(0, 0), api.ErrRange},
		{loss(1, 1), -1, to(0, 0), api.ErrArg}, {loss(11, 1), -1, to(0, 0), api.ErrArg}, {loss(5, 6), -1, to(0, 0), api.ErrArg}, {loss(5, -1), -1, to(0, 0), api.ErrArg}, {loss(0, 0), 1, to(0, 0), api.ErrArg}, {loss(2, 2), 1, to(0, 1), api.OK},
	} {
		if s, e := stick.Whole(c.l, c.n); s != c.want || e != c.e {
			t.Error(i, s, e)
		}
	}
}

// P2.9
func TestGive(t *testing.T) {
	for i, c := range []struct {
		l    api.StickLoss
		want int
		n    int
		e    api.Errno
	}{
		{loss(10, 1), 22, 25, api.OK}, {loss(10, 1), 18, 20, api.OK}, {loss(10, 1), 19, 22, api.OK}, {loss(10, 1), 0, 0, api.OK}, {loss(10, 1), 1, 2, api.OK}, // example 5
		{loss(10, 0), 25, 25, api.OK}, {loss(10, 10), 0, 0, api.OK}, {loss(10, 10), 1, 0, api.ErrNone}, {loss(2, 1), 3, 6, api.OK}, {loss(10, 9), 1, 10, api.OK}, {loss(10, 9), 2, 20, api.OK},
		{loss(10, 0), api.MaxStickMany, api.MaxStickMany, api.OK}, {loss(10, 9), 100000, api.MaxStickMany, api.OK}, {loss(10, 9), 100001, 0, api.ErrNone}, {loss(10, 1), 900000, api.MaxStickMany, api.OK}, {loss(10, 1), 900001, 0, api.ErrNone}, {loss(10, 1), api.MaxStickMany, 0, api.ErrNone},
		{loss(10, 1), -1, 0, api.ErrRange}, {loss(10, 1), api.MaxStickMany + 1, 0, api.ErrRange}, {loss(10, 11), -1, 0, api.ErrArg}, {loss(1, 1), -1, 0, api.ErrArg}, {loss(11, 0), 1, 0, api.ErrArg}, {loss(3, -1), 1, 0, api.ErrArg},
	} {
		if n, e := stick.Give(c.l, c.want); n != c.n || e != c.e {
			t.Error(i, n, e)
		}
	}
}

// P2.10
func TestBroke(t *testing.T) {
	for i, c := range []struct {
		l        api.StickLoss
		seen     string
		possibly []int
		e        api.Errno
	}{
		{loss(3, 1), "?x???", []int{4}, api.OK}, {loss(3, 1), "", nil, api.OK}, {loss(3, 1), "?", []int{0}, api.OK}, {loss(3, 0), "???", nil, api.OK}, {loss(3, 3), "?x?", []int{0, 2}, api.OK}, // example 6
		{loss(3, 1), "oxo", nil, api.OK}, {loss(3, 1), "xoox", nil, api.OK}, {loss(3, 1), "xox", nil, api.ErrState}, {loss(3, 1), "xx", nil, api.ErrState}, {loss(3, 0), "ox", nil, api.ErrState}, {loss(10, 1), "x?????????", nil, api.OK}, {loss(10, 1), "x??????????", []int{10}, api.OK},
		{loss(4, 2), "x?x?????", []int{4, 5, 6, 7}, api.OK}, {loss(4, 2), "xx????xx", []int{}, api.OK}, {loss(4, 2), "xx?????xx", []int{4}, api.OK}, {loss(3, 2), "x?xx?x", nil, api.OK},
		{loss(2, 1), strings.Repeat("x?", 20), nil, api.OK}, {loss(2, 2), strings.Repeat("x", 40), nil, api.OK}, {loss(2, 2), strings.Repeat("o", 41), nil, api.ErrLong}, {loss(2, 1), strings.Repeat("x", 41), nil, api.ErrLong}, {loss(2, 1), strings.Repeat("z", 41), nil, api.ErrLong},
		{loss(2, 1), "oxX", nil, api.ErrForm}, {loss(2, 1), "xxz", nil, api.ErrForm}, {loss(2, 1), "ox ", nil, api.ErrForm}, {loss(2, 1), "o\nx", nil, api.ErrForm}, {loss(2, 1), "\xff", nil, api.ErrForm}, {loss(2, 1), "?\x00", nil, api.ErrForm}, {loss(2, 1), "¿", nil, api.ErrForm},
		{loss(1, 1), strings.Repeat("z", 41), nil, api.ErrArg}, {loss(11, 1), "z", nil, api.ErrArg}, {loss(3, 4), "z", nil, api.ErrArg}, {loss(3, -1), "", nil, api.ErrArg},
	} {
		surely, possibly, e := stick.Broke(c.l, c.seen)
		if len(surely) != 0 || !slices.Equal(possibly, c.possibly) || e != c.e {
			t.Error(i, surely, possibly, e)
		}
	}
}
