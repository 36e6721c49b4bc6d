package lattice_test

import (
	"math"
	"math/rand"
	"reflect"
	"slices"
	"strings"
	"testing"

	"panache/api"
	"panache/lattice"
)

// asked is all that can be asked about pictures and lattices.
type asked struct {
	p, bars, seen     []string
	shift             api.LatticeShift
	wide, high, wrong int
	rooms             []api.LatticeRoom
	views, pictures   [][]string
	counts            api.LatticeCounts
}

// answers returns the results of all functions.
func (a asked) answers() [][]any {
	all := func(l ...any) []any { return l }
	return [][]any{
		all(lattice.Check(a.p)), all(lattice.Bars(a.bars)), all(lattice.Show(a.p, a.bars, a.shift)), all(lattice.Known(a.bars, a.wide, a.high, a.rooms)),
		all(lattice.Fewest(a.bars, a.wide, a.high)), all(lattice.Join(a.views)), all(lattice.Stood(a.p, a.bars, a.seen, a.wrong)), all(lattice.Count(a.p)),
		all(lattice.Wrong(a.p, a.counts)), all(lattice.Fill(a.seen, a.counts)), all(lattice.Alike(a.pictures, a.bars, a.shift)), all(lattice.Look(a.pictures, a.bars)),
	}
}

// roomy returns a list with spare room.
func roomy[T any](l []T) []T { return slices.Grow(slices.Clone(l), 3) }

// anyAsked makes valid questions at random. Its lists have spare room.
func anyAsked(r *rand.Rand) asked {
	a := asked{wide: between(r, 1, 8), high: between(r, 1, 8), wrong: r.Intn(3)}
	a.pictures, a.bars = anyAlike(r)
	for k := range a.pictures {
		a.pictures[k] = roomy(a.pictures[k])
	}
	a.p = roomy(anyPicture(r, a.wide, a.high))
	a.shift = anyShift(r, a.bars)
	for range between(r, 1, 4) {
		a.rooms = append(a.rooms, anyRoom(r, a.bars))
		seen, _ := lattice.Show(a.p, a.bars, anyShift(r, a.bars))
		a.views = append(a.views, roomy(seen))
	}
	a.counts = countsOf(a.p)
	for k, l := range a.counts.Rows {
		a.counts.Rows[k] = roomy(l)
	}
	if r.Intn(2) == 0 {
		a.seen, _ = lattice.Show(a.p, a.bars, a.shift)
	} else {
		a.seen, _ = hidden(r, a.p, between(r, 0, 9))
		a.p = roomy(with(a.p, r.Intn(a.wide), r.Intn(a.high), byte('0'+r.Intn(4))))
	}
	a.bars, a.seen, a.rooms = roomy(a.bars), roomy(a.seen), roomy(a.rooms)
	a.views, a.pictures, a.counts.Columns = roomy(a.views), roomy(a.pictures), roomy(a.counts.Columns)
	return a
}

func whole[T any](l []T) []T { return slices.Clone(l[:cap(l)]) }

func wholes[T any](l [][]T) [][]T {
	var copies [][]T
	for _, list := range l[:cap(l)] {
		copies = append(copies, whole(list))
	}
	return copies
}

// memory returns all memory of the arguments, with the spare room, as copies.
func (a asked) memory() []any {
	return []any{whole(a.p), whole(a.bars), whole(a.seen), whole(a.rooms), wholes(a.views), wholes(a.pictures), wholes(a.counts.Rows), wholes(a.counts.Columns)}
}

// spoil writes into all memory of results.
func spoil(results [][]any) {
	for _, l := range results {
		for _, x := range l {
			switch v := x.(type) {
			case []string:
				fill(v, "!")
			case []int:
				fill(v, -9)
			case [][]int:
				fillAll(v, -9)
			case []api.LatticeShift:
				fill(v, shift(-9, -9))
			case api.LatticeCounts:
				fillAll(v.Rows, -9)
				fillAll(v.Columns, -9)
			}
		}
	}
}

func fill[T any](l []T, x T) {
	l = l[:cap(l)]
	for k := range l {
		l[k] = x
	}
}

func fillAll(l [][]int, x int) {
	for _, list := range l {
		fill(list, x)
	}
}

// apart reports whether each of some lists can be written on, with its spare room, and no other one changes.
func apart(lists ...[]int) bool {
	for k := range lists {
		others := slices.Delete(slices.Clone(lists), k, k+1)
		before := slices.Concat(others...)
		fill(lists[k], -9-k)
		if !slices.Equal(slices.Concat(others...), before) {
			return false
		}
	}
	return true
}

// P2: equal arguments have equal results, no argument changes, and no memory is shared, also not between lists of one result.
func TestEqualAndUnchanged(t *testing.T) {
	r := rand.New(rand.NewSource(10))
	for i := range 500 {
		a := anyAsked(r)
		before := a.memory()
		first := a.answers()
		again := a.answers()
		if !reflect.DeepEqual(first, again) || !reflect.DeepEqual(a.memory(), before) {
			t.Fatal(i, a, first, again)
		}
		spoil(first)
		if !reflect.DeepEqual(a.memory(), before) || !reflect.DeepEqual(a.answers(), again) {
			t.Fatal(i, "shared memory", a)
		}
		surely, possibly, _ := lattice.Known(a.bars, a.wide, a.high, a.rooms)
		c, _ := lattice.Count(a.p)
		groups, _ := lattice.Alike(a.pictures, a.bars, a.shift)
		if !apart(surely, possibly) || !apart(slices.Concat(c.Rows, c.Columns)...) || !apart(groups...) {
			t.Fatal(i, "lists of one result share memory", a)
		}
	}
}

// P2 and R3: a nil list and an empty one are the same.
func TestNilAndEmpty(t *testing.T) {
	none := asked{p: rows(examplePicture), bars: rows(exampleBars), seen: rows("?1?/330"), wide: 3, high: 2, counts: countsOf(rows(examplePicture))}
	empty := none
	empty.rooms, empty.views, empty.pictures = []api.LatticeRoom{}, [][]string{}, [][]string{}
	same := func() {
		t.Helper()
		if a, b := none.answers(), empty.answers(); !reflect.DeepEqual(a, b) {
			t.Error(a, b)
		}
	}
	same()
	none.views, empty.views = [][]string{nil}, [][]string{{}}
	none.pictures, empty.pictures = none.views, empty.views
	same()
	none.counts, empty.counts = api.LatticeCounts{}, counts([][]int{}, [][]int{})
	same()
	none.counts, empty.counts = counts(make([][]int, 2), make([][]int, 3)), counts([][]int{{}, {}}, [][]int{{}, {}, {}})
	same()
	none.seen, empty.seen = nil, []string{}
	same()
	none.bars, empty.bars = nil, []string{}
	same()
	none.p, empty.p = nil, []string{}
	same()
}

// wild is a number that is often at a limit, or beyond it.
func wild(r *rand.Rand) int {
	l := []int{math.MinInt, math.MinInt + 1, -64, -4, -1, 0, 0, 1, 1, 2, 3, 4, 5, 8, 9, 16, 17, 63, 64, 65, math.MaxInt - 1, math.MaxInt}
	return l[r.Intn(len(l))]
}

// wildRows makes rows of which something is often wrong.
func wildRows(r *rand.Rand) []string {
	p := anyRows(r, between(r, 1, 9), between(r, 1, 9), []string{"01", "0123", "0123?", "#.", "#.?0", "0\xff"}[r.Intn(6)])
	if r.Intn(3) == 0 {
		p[r.Intn(len(p))] += string(rune(r.Intn(300)))
	}
	return p[:between(r, 0, len(p))]
}

// anyWild makes questions of which something is mostly not valid.
func anyWild(r *rand.Rand) asked {
	a := anyAsked(r)
	for range between(r, 1, 3) {
		switch r.Intn(11) {
		case 0:
			a.p = wildRows(r)
		case 1:
			a.bars = wildRows(r)
		case 2:
			a.seen = wildRows(r)
		case 3:
			a.shift = shift(wild(r), wild(r))
		case 4:
			a.wide, a.high = wild(r), wild(r)
		case 5:
			a.wrong = wild(r)
		case 6:
			a.rooms = slices.Repeat(append(a.rooms, room(to(wild(r), wild(r)), to(wild(r), wild(r)))), between(r, 1, 5))
		case 7:
			a.views = slices.Repeat(append(a.views, wildRows(r)), between(r, 1, 5))
		case 8:
			a.pictures = append(a.pictures, wildRows(r))
		case 9:
			a.counts.Rows = append(a.counts.Rows[:r.Intn(len(a.counts.Rows))], []int{wild(r), wild(r), 0, 0})
		case 10:
			a.counts.Columns[r.Intn(len(a.counts.Columns))] = []int{wild(r), wild(r), wild(r), wild(r)}[:between(r, 3, 4)]
		}
	}
	return a
}

// P1: nothing panics, and with an error all else is zero.
func TestWildArguments(t *testing.T) {
	r := rand.New(rand.NewSource(11))
	errors := map[api.Errno]int{}
	for i := range 5000 {
		a := anyWild(r)
		for k, l := range a.answers() {
			e := l[len(l)-1].(api.Errno)
			errors[e]++
			for _, x := range l[:len(l)-1] {
				if v := reflect.ValueOf(x); e != api.OK && !v.IsZero() && !(v.Kind() == reflect.Slice && v.Len() == 0) {
					t.Fatal(i, k, a, l)
				}
			}
		}
	}
	for _, e := range []api.Errno{api.OK, api.ErrArg, api.ErrRange, api.ErrForm, api.ErrLong, api.ErrTwice, api.ErrNone, api.ErrFull, api.ErrState} {
		if errors[e] == 0 {
			t.Error("never", e)
		}
	}
}

// P1: what takes the most steps has an end, too.
func TestGreatest(t *testing.T) {
	// One gap in the lattice: no shift can be spared.
	for range 20 {
		if l, e := lattice.Fewest(rows("####/####/####/###."), 8, 8); len(l) != 16 || e != api.OK {
			t.Fatal(l, e)
		}
		if l, e := lattice.Fewest(rows("####/####/####/####"), 8, 8); l != nil || e != api.ErrNone {
			t.Fatal(l, e)
		}
	}
	// Twelve cells: of the 576 Latin squares with four rows each 24th has this last row.
	p := rows("01230000/10320000/23010000/32100000")
	seen := rows("????0000/????0000/????0000/32100000")
	if many, colours, e := lattice.Fill(seen, countsOf(p)); many != 24 || !slices.Equal(colours, slices.Repeat([]int{7, 11, 13, 14}, 3)) || e != api.OK {
		t.Error(many, colours, e)
	}
	// Numbers that allow all colours everywhere, and never come out even.
	loose := counts(slices.Repeat([][]int{{64, 64, 64, 64}}, 2), slices.Repeat([][]int{{64, 64, 64, 64}}, 6))
	if many, colours, e := lattice.Fill(rows("??????/??????"), loose); many != 0 || colours != nil || e != api.ErrState {
		t.Error(many, colours, e)
	}
	many := slices.Repeat([][]string{slices.Repeat([]string{strings.Repeat("0", 8)}, 8)}, 12)
	many[11] = with(many[0], 7, 7, '1')
	if s, most, e := lattice.Look(many, rows("####/####/####/.###")); s != shift(3, 0) || most != 11 || e != api.OK {
		t.Error(s, most, e)
	}
}
