package lattice_test

import (
	"math/rand"
	"slices"
	"strings"
	"testing"

	"panache/api"
	"panache/lattice"
)

// P4.2 against a lattice that is laid again and again.
func TestShowOfAny(t *testing.T) {
	r := rand.New(rand.NewSource(1))
	for i := range 500 {
		p, bars := anyPicture(r, between(r, 1, 8), between(r, 1, 8)), anyBars(r)
		for _, s := range shiftsOf(bars) {
			if got, e := lattice.Show(p, bars, s); !slices.Equal(got, through(p, bars, s)) || e != api.OK {
				t.Fatal(i, p, bars, s, got, e)
			}
		}
	}
}

// openRows returns for each row the cells that are open with one of some shifts, as bits.
func openRows(bars []string, wide, high int, l []api.LatticeShift) []int {
	open := make([]int, high)
	for _, s := range l {
		for y := range high {
			for x := range wide {
				if isOpen(bars, s, x, y) {
					open[y] |= 1 << x
				}
			}
		}
	}
	return open
}

// P4.3 and P4.11 against all shifts of all views.
func TestKnownOfAll(t *testing.T) {
	r := rand.New(rand.NewSource(2))
	doubts := 0
	for i := range 600 {
		wide, high, bars := between(r, 1, 8), between(r, 1, 8), anyBars(r)
		var rooms []api.LatticeRoom
		for range between(r, 0, 3) {
			rooms = append(rooms, anyRoom(r, bars))
		}
		surely, possibly, e := lattice.Known(bars, wide, high, rooms)
		always, once := slices.Repeat([]int{1<<wide - 1}, high), make([]int, high)
		all := shiftsOf(bars)
		for l := range choices(len(rooms), len(all)) {
			var truth []api.LatticeShift
			for k, n := range l {
				if s := all[n]; rooms[k].X.Low <= s.X && s.X <= rooms[k].X.High && rooms[k].Y.Low <= s.Y && s.Y <= rooms[k].Y.High {
					truth = append(truth, s)
				}
			}
			if len(truth) < len(rooms) {
				continue
			}
			for y, open := range openRows(bars, wide, high, truth) {
				always[y] &= open
				once[y] |= open
			}
		}
		if !slices.Equal(surely, always) || !slices.Equal(possibly, once) || e != api.OK {
			t.Fatal(i, bars, wide, high, rooms, surely, possibly, e)
		}
		if !slices.Equal(surely, possibly) {
			doubts++
		}
	}
	if doubts < 200 {
		t.Error(doubts)
	}
}

// subsets returns all lists of so many shifts of those from one on, ascending.
func subsets(l []api.LatticeShift, many int) [][]api.LatticeShift {
	if many == 0 {
		return [][]api.LatticeShift{nil}
	}
	var sets [][]api.LatticeShift
	for k := range l {
		for _, rest := range subsets(l[k+1:], many-1) {
			sets = append(sets, append(shifts(l[k]), rest...))
		}
	}
	return sets
}

// P4.4 and P4.11: with all lists of fewer shifts, and with all smaller lists, some cell is not seen; with this one the views are the picture.
func TestFewestOfAll(t *testing.T) {
	r := rand.New(rand.NewSource(3))
	counts := map[int]int{}
	for i := range 400 {
		wide, high, bars := between(r, 1, 8), between(r, 1, 8), anyBars(r)
		if len(bars)*len(bars[0]) > 9 {
			continue
		}
		full := slices.Repeat([]int{1<<wide - 1}, high)
		var want []api.LatticeShift
		for many := 1; many <= len(bars)*len(bars[0]) && want == nil; many++ {
			for _, l := range subsets(shiftsOf(bars), many) {
				if slices.Equal(openRows(bars, wide, high, l), full) {
					want = l
					break
				}
			}
		}
		counts[len(want)]++
		got, e := lattice.Fewest(bars, wide, high)
		if !slices.Equal(got, want) || (e == api.OK) != (want != nil) || e != api.OK && e != api.ErrNone {
			t.Fatal(i, bars, wide, high, got, want, e)
		}
		if want == nil {
			continue
		}
		p := anyPicture(r, wide, high)
		var views [][]string
		for _, s := range got {
			seen, _ := lattice.Show(p, bars, s)
			views = append(views, seen)
		}
		if all, e := lattice.Join(views); !slices.Equal(all, p) || e != api.OK {
			t.Fatal(i, p, bars, got, all, e)
		}
	}
	if counts[0] < 20 || counts[1] < 20 || counts[2] < 20 || counts[3] < 20 {
		t.Error(counts)
	}
}

// P4.5 and P4.11: views of one picture are joined; if one of them is changed in a cell that another one shows, they are not.
func TestJoinOfAny(t *testing.T) {
	r := rand.New(rand.NewSource(4))
	changed := 0
	for i := range 1000 {
		p := anyPicture(r, between(r, 1, 8), between(r, 1, 8))
		want := slices.Repeat([]string{strings.Repeat("?", len(p[0]))}, len(p))
		shown := map[[2]int]int{}
		var views [][]string
		for range between(r, 1, 16) {
			bars := anyBars(r)
			seen, _ := lattice.Show(p, bars, anyShift(r, bars))
			views = append(views, seen)
			for y := range seen {
				for x := range seen[y] {
					if seen[y][x] != '?' {
						want = with(want, x, y, p[y][x])
						shown[[2]int{x, y}]++
					}
				}
			}
		}
		if got, e := lattice.Join(views); !slices.Equal(got, want) || e != api.OK {
			t.Fatal(i, p, views, got, e)
		}
		k, x, y := r.Intn(len(views)), r.Intn(len(p[0])), r.Intn(len(p))
		if views[k][y][x] == '?' {
			continue
		}
		other := '0' + (p[y][x]-'0'+1+byte(r.Intn(3)))%4
		views[k] = with(views[k], x, y, other)
		got, e := lattice.Join(views)
		if shown[[2]int{x, y}] > 1 {
			changed++
			want, e = nil, e-api.ErrState
		} else {
			want = with(want, x, y, other)
		}
		if !slices.Equal(got, want) || e != api.OK {
			t.Fatal(i, p, views, got, e)
		}
	}
	if changed < 200 {
		t.Error(changed)
	}
}

// P4.6 and P4.12: what was seen is compared with what is seen of the picture, with all shifts.
func TestStoodOfAll(t *testing.T) {
	r := rand.New(rand.NewSource(5))
	counts := map[bool]int{}
	for i := range 2000 {
		p, bars := anyPicture(r, between(r, 1, 8), between(r, 1, 8)), anyBars(r)
		s := anyShift(r, bars)
		seen, _ := lattice.Show(p, bars, s)
		slips := map[[2]int]bool{}
		for range between(r, 0, 5) {
			if x, y := r.Intn(len(p[0])), r.Intn(len(p)); seen[y][x] != '?' {
				seen = with(seen, x, y, '0'+(p[y][x]-'0'+1)%4)
				slips[[2]int{x, y}] = true
			}
		}
		if r.Intn(4) == 0 {
			seen, _ = hidden(r, seen, 1)
		}
		before := 0
		for wrong := range 8 {
			var want []api.LatticeShift
			for _, now := range shiftsOf(bars) {
				look := through(p, bars, now)
				others, same := 0, true
				for y := range p {
					for x := range p[y] {
						same = same && (look[y][x] == '?') == (seen[y][x] == '?')
						if look[y][x] != seen[y][x] {
							others++
						}
					}
				}
				if same && others <= wrong {
					want = append(want, now)
				}
			}
			got, e := lattice.Stood(p, bars, seen, wrong)
			if !slices.Equal(got, want) || (e == api.OK) != (want != nil) || e != api.OK && e != api.ErrNone || len(got) < before {
				t.Fatal(i, p, bars, seen, wrong, got, want, e)
			}
			if slices.Equal(openRows(bars, len(p[0]), len(p), shifts(s)), shownRows(seen)) && slices.Contains(got, s) != (wrong >= len(slips)) {
				t.Fatal(i, p, bars, seen, wrong, got, s)
			}
			before = len(got)
			counts[e == api.OK]++
		}
	}
	if counts[true] < 1000 || counts[false] < 1000 {
		t.Error(counts)
	}
}

// shownRows returns for each row the cells that are seen, as bits.
func shownRows(seen []string) []int {
	l := make([]int, len(seen))
	for y := range seen {
		for x := range seen[y] {
			if seen[y][x] != '?' {
				l[y] |= 1 << x
			}
		}
	}
	return l
}

// sumOf adds lists up, place by place.
func sumOf(lists [][]int) []int {
	sum := make([]int, 4)
	for _, l := range lists {
		for k, n := range l {
			sum[k] += n
		}
	}
	return sum
}

// P4.7, P4.8 and P4.13: all cells are tried with all colours.
func TestWrongOfAll(t *testing.T) {
	r := rand.New(rand.NewSource(6))
	errors := map[api.Errno]int{}
	for i := range 600 {
		p := anyPicture(r, between(r, 1, 8), between(r, 1, 8))
		c, e := lattice.Count(p)
		if !sameCounts(c, countsOf(p)) || e != api.OK || !slices.Equal(sumOf(c.Rows), sumOf(c.Columns)) {
			t.Fatal(i, p, c, e)
		}
		// A cell or two are copied wrong, and sometimes the counts are, too.
		wrong := p
		changed := map[[2]int]bool{}
		for range between(r, 0, 2) {
			x, y := r.Intn(len(p[0])), r.Intn(len(p))
			changed[[2]int{x, y}] = true
			wrong = with(wrong, x, y, '0'+(p[y][x]-'0'+1)%4)
		}
		exact := r.Intn(5) > 0
		if !exact {
			c.Rows[r.Intn(len(c.Rows))][r.Intn(4)]++
			c.Columns[r.Intn(len(c.Columns))][r.Intn(4)]++
		}
		var want []api.LatticeSlip
		for y := range wrong {
			for x := range wrong[y] {
				for colour := range 4 {
					if b := byte('0' + colour); b != wrong[y][x] && sameCounts(countsOf(with(wrong, x, y, b)), c) {
						want = append(want, api.LatticeSlip{X: x, Y: y, Colour: colour})
					}
				}
			}
		}
		got, e := lattice.Wrong(wrong, c)
		errors[e]++
		switch {
		case sameCounts(countsOf(wrong), c):
			want, e = []api.LatticeSlip{{}}, e-api.ErrTwice
		case want == nil:
			want, e = []api.LatticeSlip{{}}, e-api.ErrNone
		}
		if !slices.Equal(want, []api.LatticeSlip{got}) || e != api.OK {
			t.Fatal(i, p, wrong, c, got, want, e)
		}
		if exact && len(changed) == 1 && (!changed[[2]int{got.X, got.Y}] || !slices.Equal(with(wrong, got.X, got.Y, byte('0'+got.Colour)), p)) {
			t.Fatal(i, p, wrong, got)
		}
	}
	if errors[api.OK] < 100 || errors[api.ErrTwice] < 100 || errors[api.ErrNone] < 100 || len(errors) != 3 {
		t.Error(errors)
	}
}

// filled returns in how many ways cells that are not seen can have colours, and their colours, by trying all.
func filled(seen []string, cells [][2]int, c api.LatticeCounts) (many int, colours []int) {
	colours = make([]int, len(cells))
	for l := range choices(len(cells), 4) {
		p := seen
		for k, cell := range cells {
			p = with(p, cell[0], cell[1], byte('0'+l[k]))
		}
		if sameCounts(countsOf(p), c) {
			many++
			for k := range cells {
				colours[k] |= 1 << l[k]
			}
		}
	}
	return many, colours
}

// P4.9 and P4.14: all colours are tried in all cells that were not seen.
func TestFillOfAll(t *testing.T) {
	r := rand.New(rand.NewSource(7))
	counts := map[bool]int{}
	for i := range 500 {
		p := anyPicture(r, between(r, 1, 4), between(r, 1, 4))
		seen, cells := hidden(r, p, between(r, 0, 5))
		c := countsOf(p)
		if r.Intn(4) == 0 {
			c = countsOf(anyPicture(r, len(p[0]), len(p)))
		}
		if r.Intn(8) == 0 {
			c.Rows[r.Intn(len(p))][r.Intn(4)] = r.Intn(3)
		}
		many, colours := filled(seen, cells, c)
		got, l, e := lattice.Fill(seen, c)
		counts[e == api.OK]++
		if e != api.OK {
			if many > 0 || got != 0 || l != nil || e != api.ErrState {
				t.Fatal(i, seen, c, got, l, e)
			}
		} else if got != many || !slices.Equal(l, colours) || many == 0 {
			t.Fatal(i, seen, c, got, l, many, colours)
		}
	}
	if counts[true] < 100 || counts[false] < 50 {
		t.Error(counts)
	}
}

// P4.14, also of large pictures.
func TestFillHasThePicture(t *testing.T) {
	r := rand.New(rand.NewSource(8))
	counts := map[bool]int{}
	for i := range 1200 {
		p := anyPicture(r, between(r, 3, 8), between(r, 3, 8))
		seen, cells := hidden(r, p, between(r, 0, 40))
		c := countsOf(p)
		many, colours, e := lattice.Fill(seen, c)
		if len(colours) != len(cells) || many < 1 || e != api.OK {
			t.Fatal(i, p, seen, many, colours, e)
		}
		for k, cell := range cells {
			x, y := cell[0], cell[1]
			if set := colours[k]; set&(1<<(p[y][x]-'0')) == 0 || many == 1 && set&(set-1) != 0 {
				t.Fatal(i, p, seen, many, colours)
			}
			// With this cell seen, whatever its colour is: the ways of all its colours are all ways.
			left := many
			for colour := range 4 {
				ways, _, e := lattice.Fill(with(seen, x, y, byte('0'+colour)), c)
				if (ways > 0) != (colours[k]&(1<<colour) != 0) || (ways > 0) != (e == api.OK) {
					t.Fatal(i, p, seen, many, colours, colour, ways, e)
				}
				left -= ways
			}
			if left != 0 {
				t.Fatal(i, p, seen, many, colours, left)
			}
		}
		counts[many > 1]++
	}
	if counts[true] < 100 || counts[false] < 100 {
		t.Error(counts)
	}
}

// anyAlike makes pictures at random, of which some look alike, and a lattice.
func anyAlike(r *rand.Rand) (l [][]string, bars []string) {
	bars = anyBars(r)
	p := anyPicture(r, between(r, 1, 5), between(r, 1, 5))
	for range between(r, 0, api.MaxLatticePictures) {
		next := p
		for range between(r, 0, 2) {
			next = with(next, r.Intn(len(p[0])), r.Intn(len(p)), byte('0'+r.Intn(4)))
		}
		l = append(l, next)
	}
	return l, bars
}

// P4.10 and P4.15: all pictures are compared with each other, with all shifts.
func TestAlikeOfAll(t *testing.T) {
	r := rand.New(rand.NewSource(9))
	counts := map[api.Errno]int{}
	for i := range 500 {
		l, bars := anyAlike(r)
		least := len(l)
		var best api.LatticeShift
		for _, s := range shiftsOf(bars) {
			var want [][]int
			greatest := 0
			for k := range l {
				like := func(group []int) bool {
					return slices.Equal(through(l[group[0]], bars, s), through(l[k], bars, s))
				}
				if g := slices.IndexFunc(want, like); g >= 0 {
					want[g] = append(want[g], k)
				} else {
					want = append(want, []int{k})
				}
			}
			for _, group := range want {
				greatest = max(greatest, len(group))
			}
			if greatest < least {
				least, best = greatest, s
			}
			if got, e := lattice.Alike(l, bars, s); !sameGroups(got, want) || e != api.OK {
				t.Fatal(i, l, bars, s, got, e)
			}
		}
		s, most, e := lattice.Look(l, bars)
		counts[e]++
		if least == len(l) {
			least, e = 0, e-api.ErrNone
		}
		if s != best || most != least || e != api.OK {
			t.Fatal(i, l, bars, s, most, best, least, e)
		}
	}
	if counts[api.OK] < 100 || counts[api.ErrNone] < 50 || len(counts) != 2 {
		t.Error(counts)
	}
}
