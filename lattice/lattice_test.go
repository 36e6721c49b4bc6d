package lattice_test

import (
	"math"
	"slices"
	"strings"
	"testing"

	"panache/api"
	"panache/lattice"
)

// formless returns rows that have not their form, if there are at most so many of so many bytes each.
func formless(most int, b string) [][]string {
	long := strings.Repeat(b, most)
	return [][]string{
		nil, {}, {""}, {"", ""}, {b, ""}, {"", b}, {b, b + b}, {b + b, b}, {b, b, b + b}, {long + b}, {long, long + b},
		slices.Repeat([]string{b}, most+1), slices.Repeat([]string{long + b}, most), slices.Repeat([]string{long}, most+1),
		{"x", "xx"}, {long + "x"}, slices.Repeat([]string{"x"}, most+1), {"é", b}, // not their bytes, either
	}
}

// errorsOf returns the errors of all functions with a picture, whose other arguments are not valid.
func errorsOf(p []string) []api.Errno {
	_, a := lattice.Show(p, nil, shift(-1, -1))
	_, b := lattice.Stood(p, nil, nil, -1)
	_, c := lattice.Count(p)
	_, d := lattice.Wrong(p, api.LatticeCounts{})
	_, e := lattice.Alike([][]string{rows("0123"), p, nil, {"x"}}, nil, shift(-1, -1))
	_, _, f := lattice.Look([][]string{rows("0123"), p, nil, {"x"}}, nil)
	return []api.Errno{lattice.Check(p), a, b, c, d, e, f}
}

// errorsOfBars returns the errors of all functions with a lattice, of which the arguments behind it are not valid.
func errorsOfBars(bars []string) []api.Errno {
	_, a := lattice.Show(rows("0"), bars, shift(-1, -1))
	_, _, b := lattice.Known(bars, 0, 9, make([]api.LatticeRoom, 17))
	_, c := lattice.Fewest(bars, 0, 9)
	_, d := lattice.Stood(rows("0"), bars, nil, -1)
	_, e := lattice.Alike(all("0", "1"), bars, shift(-1, -1))
	_, _, f := lattice.Look(nil, bars)
	return []api.Errno{lattice.Bars(bars), a, b, c, d, e, f}
}

// errorsOfSeen returns the errors of all functions with what is seen, of which the arguments behind it are not valid.
func errorsOfSeen(seen []string) []api.Errno {
	_, a := lattice.Join([][]string{rows("0?"), seen, nil, {"x"}})
	_, b := lattice.Stood(rows("0"), rows("."), seen, -1)
	_, _, c := lattice.Fill(seen, api.LatticeCounts{})
	return []api.Errno{a, b, c}
}

func allAre(l []api.Errno, e api.Errno) bool {
	return !slices.ContainsFunc(l, func(f api.Errno) bool { return f != e })
}

// P4.1: the errors of pictures, lattices, and of what is seen, which come before those of the arguments behind them.
func TestForms(t *testing.T) {
	for i, p := range formless(8, "0") {
		if l := errorsOf(p); !allAre(l, api.ErrForm) {
			t.Error(i, p, l)
		}
		if l := errorsOfSeen(p); !allAre(l, api.ErrForm) {
			t.Error(i, p, l)
		}
	}
	for i, bars := range formless(4, ".") {
		if l := errorsOfBars(bars); !allAre(l, api.ErrForm) {
			t.Error(i, bars, l)
		}
	}
	for b := range 256 {
		text := string([]byte{byte(b)})
		for i, p := range [][]string{{text}, {text + "00"}, {"0" + text + "0"}, {"00", "0" + text}, {text + "0", "00"}, slices.Repeat([]string{strings.Repeat(text, 8)}, 8)} {
			e, f := api.ErrArg, api.ErrArg
			if strings.Contains("0123", text) {
				e = api.OK
			}
			if strings.Contains("0123?", text) {
				f = api.OK
			}
			if l := errorsOf(p); e == api.OK && lattice.Check(p) != api.OK || e != api.OK && !allAre(l, e) {
				t.Error(b, i, l)
			}
			_, joined := lattice.Join([][]string{p})
			if l := errorsOfSeen(p); joined != f || f != api.OK && !allAre(l, f) {
				t.Error(b, i, l)
			}
		}
		for i, bars := range [][]string{{text}, {text + ".."}, {".#" + text + "."}, {"..", "#" + text}, {text + ".", ".."}, slices.Repeat([]string{strings.Repeat(text, 4)}, 4)} {
			e := api.ErrArg
			if strings.Contains("#.", text) {
				e = api.OK
			}
			if l := errorsOfBars(bars); e == api.OK && lattice.Bars(bars) != api.OK || e != api.OK && !allAre(l, e) {
				t.Error(b, i, l)
			}
		}
	}
}

// P4.1: valid rows of all sizes, and texts that are not one byte a cell.
func TestSizes(t *testing.T) {
	for high := range 11 {
		for wide := range 11 {
			p, bars := slices.Repeat([]string{strings.Repeat("3", wide)}, high), slices.Repeat([]string{strings.Repeat("#", wide)}, high)
			e, f := api.ErrForm, api.ErrForm
			if 0 < high && high < 9 && 0 < wide && wide < 9 {
				e = api.OK
			}
			if 0 < high && high < 5 && 0 < wide && wide < 5 {
				f = api.OK
			}
			_, g := lattice.Join([][]string{p})
			if a, b := lattice.Check(p), lattice.Bars(bars); a != e || g != e || b != f {
				t.Error(high, wide, a, g, b)
			}
		}
	}
	for i, c := range []struct {
		p []string
		e api.Errno
	}{
		{rows("é0/000"), api.ErrArg}, {rows("é0/00"), api.ErrForm}, {rows("€€€"), api.ErrForm}, {rows("€€"), api.ErrArg}, {rows("0 1"), api.ErrArg}, {rows("01\n"), api.ErrArg}, {rows("4"), api.ErrArg}, {rows("-1"), api.ErrArg},
	} {
		if e := lattice.Check(c.p); e != c.e {
			t.Error(i, e)
		}
	}
}

// P4.2
func TestShow(t *testing.T) {
	for i, c := range []struct {
		p, bars string
		s       api.LatticeShift
		want    string
		e       api.Errno
	}{
		{examplePicture, exampleBars, shift(0, 0), "?1?/330", api.OK}, {examplePicture, exampleBars, shift(1, 0), "0?2/330", api.OK}, {examplePicture, exampleBars, shift(0, 1), "012/?3?", api.OK}, // example 1
		{examplePicture, exampleBars, shift(1, 1), "012/3?0", api.OK}, {examplePicture, ".", shift(0, 0), "012/330", api.OK}, {examplePicture, "#", shift(0, 0), "???/???", api.OK}, {"2", exampleBars, shift(0, 0), "?", api.OK}, {"2", exampleBars, shift(1, 1), "2", api.OK},
		{"01230123/32103210", "#../.#.", shift(0, 0), "?12?01?3/3?10?21?", api.OK}, {"01230123/32103210", "#../.#.", shift(1, 0), "0?23?12?/32?03?10", api.OK}, {"01230123/32103210", "#../.#.", shift(2, 1), "?12?01?3/32?03?10", api.OK}, // moved right, not left
		{"0/1/2/3/0/1/2/3", "./#/#", shift(0, 0), "0/?/?/3/?/?/2/?", api.OK}, {"0/1/2/3/0/1/2/3", "./#/#", shift(0, 1), "?/1/?/?/0/?/?/3", api.OK}, {"0/1/2/3/0/1/2/3", "./#/#", shift(0, 2), "?/?/2/?/?/1/?/?", api.OK}, // moved down, not up
		{"0123/0123/0123/0123", "###./####/####/####", shift(3, 3), "????/????/????/??2?", api.OK}, {"01/23", "###./####/####/####", shift(0, 0), "??/??", api.OK},
		{examplePicture, exampleBars, shift(-1, 0), "", api.ErrRange}, {examplePicture, exampleBars, shift(2, 0), "", api.ErrRange}, {examplePicture, exampleBars, shift(0, -1), "", api.ErrRange}, {examplePicture, exampleBars, shift(0, 2), "", api.ErrRange}, {examplePicture, ".", shift(1, 0), "", api.ErrRange}, {examplePicture, "..../....", shift(3, 1), "012/330", api.OK}, {examplePicture, "..../....", shift(1, 3), "", api.ErrRange}, {examplePicture, exampleBars, shift(math.MaxInt, 0), "", api.ErrRange}, {examplePicture, exampleBars, shift(0, math.MinInt), "", api.ErrRange},
		{"0?2/330", exampleBars, shift(0, 0), "", api.ErrArg}, {"0?2/330", "#", shift(9, 0), "", api.ErrArg}, {examplePicture, "", shift(9, 0), "", api.ErrForm}, // the error that is named first
	} {
		want := rows(c.want)
		if c.e != api.OK {
			want = nil
		}
		if got, e := lattice.Show(rows(c.p), rows(c.bars), c.s); !slices.Equal(got, want) || e != c.e {
			t.Error(i, got, e)
		}
	}
}

// P4.3
func TestKnown(t *testing.T) {
	rooms := func(l ...api.LatticeRoom) []api.LatticeRoom { return l }
	still := func(x, y int) api.LatticeRoom { return room(to(x, x), to(y, y)) }
	free, bad := room(to(0, 1), to(0, 1)), room(to(1, 0), to(0, 0))
	for i, c := range []struct {
		bars             string
		wide, high       int
		rooms            []api.LatticeRoom
		surely, possibly []int
		e                api.Errno
	}{
		{exampleBars, 3, 2, rooms(room(to(0, 1), to(0, 0))), []int{0, 7}, []int{7, 7}, api.OK}, // example 2
		{exampleBars, 3, 2, nil, []int{0, 0}, []int{0, 0}, api.OK}, {exampleBars, 3, 2, rooms(still(0, 0)), []int{2, 7}, []int{2, 7}, api.OK}, {exampleBars, 3, 2, rooms(still(1, 1)), []int{7, 5}, []int{7, 5}, api.OK}, {exampleBars, 3, 2, rooms(free), []int{0, 0}, []int{7, 7}, api.OK},
		{exampleBars, 3, 2, rooms(still(0, 0), still(1, 0)), []int{7, 7}, []int{7, 7}, api.OK}, {exampleBars, 3, 2, rooms(room(to(0, 1), to(0, 0)), room(to(0, 0), to(0, 1))), []int{2, 7}, []int{7, 7}, api.OK}, {exampleBars, 3, 2, rooms(free, free, free), []int{0, 0}, []int{7, 7}, api.OK},
		{"##./###", 3, 2, rooms(room(to(0, 1), to(0, 0)), room(to(0, 1), to(0, 0))), []int{0, 0}, []int{5, 0}, api.OK}, {"##./###", 3, 2, rooms(room(to(1, 2), to(0, 0)), still(0, 1)), []int{0, 4}, []int{3, 4}, api.OK}, // a view more with doubts makes no cell sure
		{".", 8, 8, rooms(still(0, 0)), slices.Repeat([]int{255}, 8), slices.Repeat([]int{255}, 8), api.OK}, {"#", 8, 1, rooms(still(0, 0)), []int{0}, []int{0}, api.OK}, {"#.", 8, 1, rooms(still(0, 0)), []int{0xaa}, []int{0xaa}, api.OK}, {"#.", 1, 8, rooms(still(1, 0)), slices.Repeat([]int{1}, 8), slices.Repeat([]int{1}, 8), api.OK}, {"..../..../..../....", 1, 1, rooms(room(to(0, 3), to(0, 3))), []int{1}, []int{1}, api.OK},
		{"#.", 0, 1, nil, nil, nil, api.ErrRange}, {"#.", 9, 1, nil, nil, nil, api.ErrRange}, {"#.", 1, 0, nil, nil, nil, api.ErrRange}, {"#.", 1, 9, nil, nil, nil, api.ErrRange}, {"#.", math.MinInt, 1, nil, nil, nil, api.ErrRange}, {"#.", 1, math.MaxInt, nil, nil, nil, api.ErrRange},
		{exampleBars, 3, 2, slices.Repeat(rooms(free), 16), []int{0, 0}, []int{7, 7}, api.OK}, {exampleBars, 3, 2, slices.Repeat(rooms(free), 17), nil, nil, api.ErrLong}, {exampleBars, 3, 2, slices.Repeat(rooms(bad), 17), nil, nil, api.ErrLong},
		{exampleBars, 3, 2, rooms(bad), nil, nil, api.ErrArg}, {exampleBars, 3, 2, rooms(free, free, bad), nil, nil, api.ErrArg}, {exampleBars, 3, 2, rooms(room(to(0, 2), to(0, 0))), nil, nil, api.ErrArg}, {exampleBars, 3, 2, rooms(room(to(-1, 0), to(0, 0))), nil, nil, api.ErrArg}, {exampleBars, 3, 2, rooms(room(to(0, 0), to(0, 2))), nil, nil, api.ErrArg}, {exampleBars, 3, 2, rooms(room(to(0, 0), to(-1, 0))), nil, nil, api.ErrArg}, {exampleBars, 3, 2, rooms(room(to(0, 0), to(1, 0))), nil, nil, api.ErrArg},
		{"#..", 3, 2, rooms(room(to(0, 2), to(0, 0))), []int{0, 0}, []int{7, 7}, api.OK}, {"#..", 3, 2, rooms(room(to(0, 0), to(0, 1))), nil, nil, api.ErrArg}, {exampleBars, 3, 2, rooms(room(to(math.MinInt, math.MaxInt), to(0, 0))), nil, nil, api.ErrArg},
		{"x", 0, 2, slices.Repeat(rooms(bad), 17), nil, nil, api.ErrArg}, {exampleBars, 0, 2, slices.Repeat(rooms(bad), 17), nil, nil, api.ErrRange}, {exampleBars, 0, 2, rooms(bad), nil, nil, api.ErrRange}, // the error that is named first
	} {
		surely, possibly, e := lattice.Known(rows(c.bars), c.wide, c.high, c.rooms)
		if !slices.Equal(surely, c.surely) || !slices.Equal(possibly, c.possibly) || e != c.e {
			t.Error(i, surely, possibly, e)
		}
	}
}

// P4.4
func TestFewest(t *testing.T) {
	var single []api.LatticeShift
	for y := range 4 {
		for x := range 4 {
			single = append(single, shift(x, y))
		}
	}
	for i, c := range []struct {
		bars       string
		wide, high int
		want       []api.LatticeShift
		e          api.Errno
	}{
		{exampleBars, 3, 2, shifts(shift(0, 0), shift(1, 0)), api.OK},                                                                                        // example 2
		{exampleBars, 1, 1, shifts(shift(1, 0)), api.OK}, {exampleBars, 2, 1, shifts(shift(0, 1)), api.OK}, {exampleBars, 1, 2, shifts(shift(1, 0)), api.OK}, // a shift less, though a greater one
		{".", 8, 8, shifts(shift(0, 0)), api.OK}, {"..../..../..../....", 8, 8, shifts(shift(0, 0)), api.OK}, {"#", 1, 1, nil, api.ErrNone}, {"####/####", 8, 8, nil, api.ErrNone},
		{"#.", 8, 8, shifts(shift(0, 0), shift(1, 0)), api.OK}, {"#/.", 8, 8, shifts(shift(0, 0), shift(0, 1)), api.OK}, {"##.", 8, 1, shifts(shift(0, 0), shift(1, 0), shift(2, 0)), api.OK}, {"##.", 2, 1, shifts(shift(1, 0), shift(2, 0)), api.OK}, {"##.", 1, 1, shifts(shift(1, 0)), api.OK},
		{"#../#../...", 3, 3, shifts(shift(0, 0), shift(1, 0)), api.OK}, {"##..", 8, 1, shifts(shift(0, 0), shift(2, 0)), api.OK}, {"#./.#", 8, 8, shifts(shift(0, 0), shift(1, 0)), api.OK}, {"##/..", 8, 8, shifts(shift(0, 0), shift(0, 1)), api.OK}, // the smallest of several: by rows, then by columns
		{"###./####/####/####", 8, 8, single, api.OK}, {"###./####/####/####", 4, 4, single, api.OK}, {"####/####/####/.###", 1, 8, shifts(shift(0, 0), shift(0, 1), shift(0, 2), shift(0, 3)), api.OK}, {"###./####/####/####", 3, 1, shifts(shift(1, 0), shift(2, 0), shift(3, 0)), api.OK},
		{"#.", 0, 1, nil, api.ErrRange}, {"#.", 9, 1, nil, api.ErrRange}, {"#.", 1, 0, nil, api.ErrRange}, {"#.", 1, 9, nil, api.ErrRange}, {"#.", math.MaxInt, math.MinInt, nil, api.ErrRange},
		{"?", 0, 1, nil, api.ErrArg}, {"#", 0, 1, nil, api.ErrRange}, // the error that is named first
	} {
		if l, e := lattice.Fewest(rows(c.bars), c.wide, c.high); !slices.Equal(l, c.want) || e != c.e {
			t.Error(i, l, e)
		}
	}
}

// P4.5
func TestJoin(t *testing.T) {
	for i, c := range []struct {
		views [][]string
		want  string
		e     api.Errno
	}{
		{all("?1?/330", "0?2/330"), examplePicture, api.OK}, // example 3
		{all("?1?/330"), "?1?/330", api.OK}, {all("?"), "?", api.OK}, {all("?", "?"), "?", api.OK}, {all("0", "0"), "0", api.OK}, {all("?", "3", "?"), "3", api.OK}, {all("0??/???", "?1?/???", "???/33?"), "01?/33?", api.OK}, {all("0???????", "???????3"), "0??????3", api.OK},
		{slices.Repeat(all("?1?/330"), 16), "?1?/330", api.OK}, {slices.Repeat(all("?1?/330"), 17), "", api.ErrLong}, {nil, "", api.ErrNone}, {slices.Repeat([][]string{nil}, 17), "", api.ErrLong},
		{all("0", "1"), "", api.ErrState}, {all("0?", "?1", "?0"), "", api.ErrState}, {all("?", "0", "?", "0", "3"), "", api.ErrState}, {all("?1?/330", "0?2/331"), "", api.ErrState},
		{all("0?", "0"), "", api.ErrRange}, {all("0?", "?/0"), "", api.ErrRange}, {all("0/?", "1?"), "", api.ErrRange}, {all("0?", "1?", "0"), "", api.ErrRange}, {all("0", "0?"), "", api.ErrRange}, {all("0", "0/?"), "", api.ErrRange},
		{all("0?", "0", "x"), "", api.ErrArg}, {all("0?", "0", ""), "", api.ErrForm}, {all("x", ""), "", api.ErrArg}, {all("", "x"), "", api.ErrForm}, {all("0", "1", "4"), "", api.ErrArg}, {[][]string{nil}, "", api.ErrForm}, // the error that is named first, of the first view that has one
	} {
		want := rows(c.want)
		if c.e != api.OK {
			want = nil
		}
		if got, e := lattice.Join(c.views); !slices.Equal(got, want) || e != c.e {
			t.Error(i, got, e)
		}
	}
}

// P4.6
func TestStood(t *testing.T) {
	for i, c := range []struct {
		p, bars, seen string
		wrong         int
		want          []api.LatticeShift
		e             api.Errno
	}{
		{examplePicture, exampleBars, "?1?/320", 1, shifts(shift(0, 0)), api.OK}, {examplePicture, exampleBars, "?1?/320", 0, nil, api.ErrNone}, // example 3
		{examplePicture, exampleBars, "?1?/330", 0, shifts(shift(0, 0)), api.OK}, {examplePicture, exampleBars, "012/3?0", 0, shifts(shift(1, 1)), api.OK}, {examplePicture, exampleBars, "?0?/003", 3, nil, api.ErrNone}, {examplePicture, exampleBars, "?0?/003", 4, shifts(shift(0, 0)), api.OK}, {examplePicture, exampleBars, "?0?/003", 64, shifts(shift(0, 0)), api.OK},
		{examplePicture, exampleBars, "012/330", 0, nil, api.ErrNone}, {examplePicture, exampleBars, "012/330", 64, nil, api.ErrNone}, {examplePicture, exampleBars, "???/330", 64, nil, api.ErrNone}, {examplePicture, exampleBars, "?1?/3?0", 64, nil, api.ErrNone}, {examplePicture, "#", "???/???", 0, shifts(shift(0, 0)), api.OK}, {examplePicture, "...", "012/330", 0, shifts(shift(0, 0), shift(1, 0), shift(2, 0)), api.OK}, {examplePicture, ".../...", "012/330", 0, shifts(shift(0, 0), shift(1, 0), shift(2, 0), shift(0, 1), shift(1, 1), shift(2, 1)), api.OK},
		{"0", exampleBars, "0", 0, shifts(shift(1, 0), shift(0, 1), shift(1, 1)), api.OK}, {"0", exampleBars, "?", 0, shifts(shift(0, 0)), api.OK}, {"00", "#../.#.", "0?", 0, shifts(shift(1, 0), shift(0, 1)), api.OK}, {"00", "#../.#.", "3?", 1, shifts(shift(1, 0), shift(0, 1)), api.OK}, {"00", "#../.#.", "3?", 0, nil, api.ErrNone},
		{strings.Repeat("00000000/", 7) + "00000000", ".", strings.Repeat("11111111/", 7) + "11111111", 64, shifts(shift(0, 0)), api.OK}, {strings.Repeat("00000000/", 7) + "00000000", ".", strings.Repeat("11111111/", 7) + "11111111", 63, nil, api.ErrNone},
		{examplePicture, exampleBars, "?1?/320", -1, nil, api.ErrRange}, {examplePicture, exampleBars, "?1?/320", 65, nil, api.ErrRange}, {examplePicture, exampleBars, "?1?/320", math.MinInt, nil, api.ErrRange}, {examplePicture, exampleBars, "?1?/320", math.MaxInt, nil, api.ErrRange},
		{examplePicture, exampleBars, "?1?", 1, nil, api.ErrRange}, {examplePicture, exampleBars, "?1/32", 1, nil, api.ErrRange}, {examplePicture, exampleBars, "?1?/320/???", 1, nil, api.ErrRange}, {examplePicture, exampleBars, "?1?0/3201", 1, nil, api.ErrRange}, {examplePicture, exampleBars, "?1/?3/20", 1, nil, api.ErrRange},
		{"0?2/330", "", "x", -1, nil, api.ErrArg}, {"", "x", "x", -1, nil, api.ErrForm}, {examplePicture, "", "x", -1, nil, api.ErrForm}, {examplePicture, "x", "", -1, nil, api.ErrArg}, {examplePicture, ".", "x", -1, nil, api.ErrArg}, {examplePicture, ".", "", -1, nil, api.ErrForm}, // the error that is named first
	} {
		if l, e := lattice.Stood(rows(c.p), rows(c.bars), rows(c.seen), c.wrong); !slices.Equal(l, c.want) || e != c.e {
			t.Error(i, l, e)
		}
	}
}

// P4.7
func TestCount(t *testing.T) {
	for i, c := range []struct {
		p    string
		want api.LatticeCounts
	}{
		{examplePicture, counts([][]int{{1, 1, 1, 0}, {1, 0, 0, 2}}, [][]int{{1, 0, 0, 1}, {0, 1, 0, 1}, {1, 0, 1, 0}})}, // example 4
		{"2", counts([][]int{{0, 0, 1, 0}}, [][]int{{0, 0, 1, 0}})}, {"33333333", counts([][]int{{0, 0, 0, 8}}, slices.Repeat([][]int{{0, 0, 0, 1}}, 8))}, {"0/1/2/3/3/2/3/3", counts([][]int{{1, 0, 0, 0}, {0, 1, 0, 0}, {0, 0, 1, 0}, {0, 0, 0, 1}, {0, 0, 0, 1}, {0, 0, 1, 0}, {0, 0, 0, 1}, {0, 0, 0, 1}}, [][]int{{1, 1, 2, 4}})},
	} {
		if got, e := lattice.Count(rows(c.p)); !sameCounts(got, c.want) || e != api.OK {
			t.Error(i, got, e)
		}
	}
	if got, e := lattice.Count(rows("0?")); got.Rows != nil || got.Columns != nil || e != api.ErrArg {
		t.Error(got, e)
	}
}

// wrongCounts returns counts that are not valid for the picture of the examples.
func wrongCounts() []api.LatticeCounts {
	var l []api.LatticeCounts
	change := func(do func(c *api.LatticeCounts)) {
		c := countsOf(rows(examplePicture))
		do(&c)
		l = append(l, c)
	}
	change(func(c *api.LatticeCounts) { *c = api.LatticeCounts{} })
	change(func(c *api.LatticeCounts) { c.Rows = nil })
	change(func(c *api.LatticeCounts) { c.Columns = nil })
	change(func(c *api.LatticeCounts) { c.Rows = c.Rows[:1] })
	change(func(c *api.LatticeCounts) { c.Columns = c.Columns[:2] })
	change(func(c *api.LatticeCounts) { c.Rows = append(c.Rows, make([]int, 4)) })
	change(func(c *api.LatticeCounts) { c.Columns = append(c.Columns, make([]int, 4)) })
	change(func(c *api.LatticeCounts) { c.Rows, c.Columns = c.Columns, c.Rows })
	change(func(c *api.LatticeCounts) { c.Rows = slices.Repeat([][]int{{1, 0, 0, 0}}, 17) })
	for k := range 2 {
		change(func(c *api.LatticeCounts) { c.Rows[k] = nil })
		change(func(c *api.LatticeCounts) { c.Rows[k] = c.Rows[k][:3] })
		change(func(c *api.LatticeCounts) { c.Columns[k+1] = append(c.Columns[k+1], 0) })
		for _, n := range []int{-1, 65, math.MinInt, math.MaxInt} {
			change(func(c *api.LatticeCounts) { c.Rows[k][k] = n })
			change(func(c *api.LatticeCounts) { c.Columns[k+1][3-k] = n })
		}
	}
	return l
}

// P4.8 and P4.9: counts that are not valid come before all else that can be wrong.
func TestCountsAreChecked(t *testing.T) {
	for i, c := range wrongCounts() {
		if slip, e := lattice.Wrong(rows(examplePicture), c); slip != (api.LatticeSlip{}) || e != api.ErrRange {
			t.Error(i, c, slip, e)
		}
		if many, colours, e := lattice.Fill(rows("0?2/330"), c); many != 0 || colours != nil || e != api.ErrRange {
			t.Error(i, c, many, colours, e)
		}
		if _, e := lattice.Wrong(rows("0?2/330"), c); e != api.ErrArg {
			t.Error(i, c, e)
		}
		if _, _, e := lattice.Fill(rows("0x2/330"), c); e != api.ErrArg {
			t.Error(i, c, e)
		}
	}
	if _, _, e := lattice.Fill(slices.Repeat(rows("????????"), 2), api.LatticeCounts{}); e != api.ErrRange {
		t.Error(e)
	}
	// 64 is valid, though no picture of the examples has so many cells.
	c := countsOf(rows(examplePicture))
	c.Rows[1][2], c.Columns[0][0] = 64, 64
	if _, e := lattice.Wrong(rows(examplePicture), c); e != api.ErrNone {
		t.Error(e)
	}
	if _, _, e := lattice.Fill(rows("0?2/330"), c); e != api.ErrState {
		t.Error(e)
	}
}

// P4.8
func TestWrong(t *testing.T) {
	for i, c := range []struct {
		copy, p string
		want    api.LatticeSlip
		e       api.Errno
	}{
		{"012/320", examplePicture, api.LatticeSlip{X: 1, Y: 1, Colour: 3}, api.OK}, // example 4
		{"112/330", examplePicture, api.LatticeSlip{X: 0, Y: 0, Colour: 0}, api.OK}, {"012/333", examplePicture, api.LatticeSlip{X: 2, Y: 1, Colour: 0}, api.OK}, {"013/330", examplePicture, api.LatticeSlip{X: 2, Y: 0, Colour: 2}, api.OK}, {"012/130", examplePicture, api.LatticeSlip{X: 0, Y: 1, Colour: 3}, api.OK}, {"0", "1", api.LatticeSlip{Colour: 1}, api.OK},
		{examplePicture, examplePicture, api.LatticeSlip{}, api.ErrTwice}, {"01/10", "10/01", api.LatticeSlip{}, api.ErrTwice}, // other cells, the same counts
		{"112/331", examplePicture, api.LatticeSlip{}, api.ErrNone}, {"102/330", examplePicture, api.LatticeSlip{}, api.ErrNone}, {"032/310", examplePicture, api.LatticeSlip{}, api.ErrNone}, {"111/330", examplePicture, api.LatticeSlip{}, api.ErrNone}, {"330/012", examplePicture, api.LatticeSlip{}, api.ErrNone},
		{strings.Repeat("00000000/", 7) + "00000001", strings.Repeat("00000000/", 7) + "00000003", api.LatticeSlip{X: 7, Y: 7, Colour: 3}, api.OK},
	} {
		if slip, e := lattice.Wrong(rows(c.copy), countsOf(rows(c.p))); slip != c.want || e != c.e {
			t.Error(i, slip, e)
		}
	}
	// Rows and columns that say different things: each alone could be so.
	for i, c := range []api.LatticeCounts{
		counts([][]int{{0, 2, 0, 0}, {1, 1, 0, 0}}, [][]int{{1, 1, 0, 0}, {1, 1, 0, 0}}), counts([][]int{{1, 1, 0, 0}, {1, 1, 0, 0}}, [][]int{{0, 2, 0, 0}, {1, 1, 0, 0}}),
		counts([][]int{{0, 2, 0, 0}, {1, 1, 0, 0}}, [][]int{{0, 1, 1, 0}, {1, 1, 0, 0}}), counts([][]int{{0, 1, 0, 0}, {1, 1, 0, 0}}, [][]int{{0, 1, 0, 0}, {1, 1, 0, 0}}), counts([][]int{{1, 2, 0, 0}, {1, 1, 0, 0}}, [][]int{{1, 2, 0, 0}, {1, 1, 0, 0}}),
	} {
		if slip, e := lattice.Wrong(rows("01/10"), c); slip != (api.LatticeSlip{}) || e != api.ErrNone {
			t.Error(i, slip, e)
		}
	}
}

// P4.9
func TestFill(t *testing.T) {
	for i, c := range []struct {
		seen, p string
		many    int
		colours []int
		e       api.Errno
	}{
		{"0??/3?0", examplePicture, 1, []int{2, 4, 8}, api.OK}, // example 5
		{"??/??", "01/10", 2, []int{3, 3, 3, 3}, api.OK},       // example 6
		{examplePicture, examplePicture, 1, nil, api.OK}, {"01/10", "10/01", 1, nil, api.OK}, {"012/320", examplePicture, 0, nil, api.ErrState}, {"0?2/320", examplePicture, 0, nil, api.ErrState}, {"02?/330", examplePicture, 0, nil, api.ErrState}, {"?12/033", examplePicture, 0, nil, api.ErrState},
		{"?", "3", 1, []int{8}, api.OK}, {"????", "0123", 1, []int{1, 2, 4, 8}, api.OK}, {"????/????", "0123/1032", 4, []int{3, 3, 12, 12, 3, 3, 12, 12}, api.OK}, {"???/???/???", "012/120/201", 12, slices.Repeat([]int{7}, 9), api.OK}, {"0??/???/???", "012/120/201", 4, []int{6, 6, 6, 7, 7, 6, 7, 7}, api.OK}, {"??0/0??", "110/011", 1, []int{2, 2, 2, 2}, api.OK},
		{"????????/????0000", "00000000/00000000", 1, slices.Repeat([]int{1}, 12), api.OK}, {"????????/?????000", "00000000/00000000", 0, nil, api.ErrFull}, {"????????/????????", "00000000/00000001", 0, nil, api.ErrFull}, {"1???????/?????000", "00000000/00000000", 0, nil, api.ErrState},
	} {
		many, colours, e := lattice.Fill(rows(c.seen), countsOf(rows(c.p)))
		if many != c.many || !slices.Equal(colours, c.colours) || e != c.e {
			t.Error(i, many, colours, e)
		}
	}
	// Counts that are those of no picture: of rows or columns that are too long or short, or that say different things.
	for i, c := range []api.LatticeCounts{
		counts([][]int{{2, 1, 0, 0}, {1, 1, 0, 0}}, [][]int{{1, 1, 0, 0}, {1, 1, 0, 0}}), counts([][]int{{1, 1, 0, 0}, {1, 1, 0, 0}}, [][]int{{1, 1, 0, 0}, {1, 1, 0, 9}}), counts([][]int{{1, 0, 0, 0}, {1, 0, 0, 0}}, [][]int{{1, 0, 0, 0}, {1, 0, 0, 0}}), counts([][]int{{1, 1, 0, 0}, {1, 1, 0, 0}}, [][]int{{1, 0, 1, 0}, {1, 1, 0, 0}}), counts([][]int{{64, 64, 64, 64}, {64, 64, 64, 64}}, [][]int{{64, 64, 64, 64}, {64, 64, 64, 64}}), counts([][]int{{0, 0, 0, 0}, {0, 0, 0, 0}}, [][]int{{0, 0, 0, 0}, {0, 0, 0, 0}}),
	} {
		for _, seen := range []string{"??/??", "0?/??", "01/1?", "01/10"} {
			if many, colours, e := lattice.Fill(rows(seen), c); many != 0 || colours != nil || e != api.ErrState {
				t.Error(i, seen, many, colours, e)
			}
		}
	}
}

// P4.10
func TestAlike(t *testing.T) {
	two := all(examplePicture, "212/330")
	for i, c := range []struct {
		l    [][]string
		bars string
		s    api.LatticeShift
		want [][]int
		e    api.Errno
	}{
		{two, exampleBars, shift(0, 0), [][]int{{0, 1}}, api.OK}, {two, exampleBars, shift(1, 0), [][]int{{0}, {1}}, api.OK}, // example 7
		{nil, exampleBars, shift(1, 1), nil, api.OK}, {all("0"), ".", shift(0, 0), [][]int{{0}}, api.OK}, {all("0", "1", "0", "2", "1"), ".", shift(0, 0), [][]int{{0, 2}, {1, 4}, {3}}, api.OK}, {all("0", "1", "0", "2", "1"), "#", shift(0, 0), [][]int{{0, 1, 2, 3, 4}}, api.OK},
		{all("30", "20", "31", "21"), "#.", shift(0, 0), [][]int{{0, 1}, {2, 3}}, api.OK}, {all("30", "20", "31", "21"), "#.", shift(1, 0), [][]int{{0, 2}, {1, 3}}, api.OK}, {all("3", "2", "2", "3"), ".", shift(0, 0), [][]int{{0, 3}, {1, 2}}, api.OK}, // not by their colours
		{slices.Repeat(all("0"), 12), ".", shift(0, 0), [][]int{{0, 1, 2, 3, 4, 5, 6, 7, 8, 9, 10, 11}}, api.OK}, {slices.Repeat(all("0"), 13), ".", shift(0, 0), nil, api.ErrLong},
		{two, exampleBars, shift(2, 0), nil, api.ErrRange}, {two, exampleBars, shift(-1, 0), nil, api.ErrRange}, {two, exampleBars, shift(0, 2), nil, api.ErrRange}, {two, exampleBars, shift(0, -1), nil, api.ErrRange}, {nil, exampleBars, shift(0, math.MaxInt), nil, api.ErrRange}, {nil, "x", shift(9, 9), nil, api.ErrArg}, {nil, "", shift(9, 9), nil, api.ErrForm},
	} {
		if l, e := lattice.Alike(c.l, rows(c.bars), c.s); !sameGroups(l, c.want) || e != c.e {
			t.Error(i, l, e)
		}
	}
}

// P4.10: errors that Alike and Look have both, in their order.
func TestPicturesAreChecked(t *testing.T) {
	for i, c := range []struct {
		l    [][]string
		bars string
		e    api.Errno
	}{
		{slices.Repeat([][]string{nil}, 13), "", api.ErrLong}, {all("0", "x", ""), "", api.ErrArg}, {all("0", "", "x"), "x", api.ErrForm}, {all("0", "00", "x"), "", api.ErrArg}, {all("0?", "00"), "", api.ErrArg},
		{all("0", "00"), "x", api.ErrForm}, {all("0", "0/0"), "x", api.ErrForm}, {all("00", "0/0"), "x", api.ErrForm}, {all("00", "11", "0"), "x", api.ErrForm}, {all("0/0", "0/1", "00/00"), "x", api.ErrForm}, {all("0", "1"), "x", api.ErrArg}, {all("0", "1"), "", api.ErrForm},
	} {
		l, e := lattice.Alike(c.l, rows(c.bars), shift(-1, -1))
		s, most, f := lattice.Look(c.l, rows(c.bars))
		if l != nil || e != c.e || s != shift(0, 0) || most != 0 || f != c.e {
			t.Error(i, l, e, s, most, f)
		}
	}
}

// P4.10
func TestLook(t *testing.T) {
	for i, c := range []struct {
		l    [][]string
		bars string
		s    api.LatticeShift
		most int
		e    api.Errno
	}{
		{all(examplePicture, "212/330"), exampleBars, shift(1, 0), 1, api.OK}, // example 7
		{nil, exampleBars, shift(0, 0), 0, api.ErrNone}, {all("0"), ".", shift(0, 0), 0, api.ErrNone}, {all("0", "0"), ".", shift(0, 0), 0, api.ErrNone}, {all("0", "1"), "#", shift(0, 0), 0, api.ErrNone}, {all("0", "1"), ".", shift(0, 0), 1, api.OK},
		{all("00", "10", "20", "01"), "#.", shift(1, 0), 2, api.OK}, {all("00", "01", "02", "10"), "#.", shift(0, 0), 2, api.OK}, {all("00", "01", "10"), "#.", shift(0, 0), 2, api.OK}, {all("00", "11"), "...#", shift(0, 0), 1, api.OK}, // the smallest of several
		{all("0/0", "1/0"), "./#", shift(0, 0), 1, api.OK}, {all("0/0", "0/1"), "./#", shift(0, 1), 1, api.OK}, {all("00/00", "01/00", "00/10", "00/20"), "#./##", shift(1, 1), 2, api.OK}, {all("00/00", "00/01", "01/10", "01/11"), "#./##", shift(0, 0), 2, api.OK}, {all("00/00", "00/10", "01/20", "00/30"), "#./##", shift(1, 1), 1, api.OK}, // by rows, then by columns
		{slices.Concat(slices.Repeat(all("00"), 11), all("01")), "#.", shift(0, 0), 11, api.OK}, {slices.Repeat(all("00"), 12), "#.", shift(0, 0), 0, api.ErrNone}, {slices.Repeat(all("00"), 13), "#.", shift(0, 0), 0, api.ErrLong}, {all("000", "001"), "#####", shift(0, 0), 0, api.ErrForm}, {all("000", "001"), "..##", shift(1, 0), 1, api.OK},
	} {
		if s, most, e := lattice.Look(c.l, rows(c.bars)); s != c.s || most != c.most || e != c.e {
			t.Error(i, s, most, e)
		}
	}
}
