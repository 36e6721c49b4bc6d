package stick_test

import (
	"math"
	"math/rand"
	"reflect"
	"slices"
	"strings"
	"testing"

	"panache/api"
	"panache/stick"
)

// asked is all that can be asked about sticks.
type asked struct {
	row     []api.StickMark
	stick   int
	cuts    []api.StickCut
	fan     api.StickFan
	loss    api.StickLoss
	n, want int
	seen    string
}

// answers returns the results of all functions.
func (a asked) answers() [][]any {
	all := func(l ...any) []any { return l }
	return [][]any{
		all(stick.Check(a.row)), all(stick.Right(a.row)), all(stick.First(a.row)), all(stick.Out(a.row)), all(stick.Can(a.row, a.stick)),
		all(stick.Looks(a.row)), all(stick.Most(a.cuts, a.fan)), all(stick.Fans(a.cuts, a.fan)),
		all(stick.Whole(a.loss, a.n)), all(stick.Give(a.loss, a.want)), all(stick.Broke(a.loss, a.seen)),
	}
}

// anyAsked makes valid questions at random. Its lists have spare room.
func anyAsked(r *rand.Rand) asked {
	a := asked{row: anyRow(r, api.MaxStickRow), cuts: anyCuts(r, api.MaxStickCuts, api.MaxStickTeeth, 20)}
	a.row = slices.Grow(slices.Clone(a.row), 3)
	a.cuts = slices.Grow(slices.Clone(a.cuts), 3)
	a.stick = r.Intn(max(1, len(a.row)))
	a.fan = fan(between(r, 2, 4), between(r, 0, 3), between(r, 0, 15))
	a.loss = loss(between(r, 2, api.MaxStickOf), between(r, 0, 2))
	a.n, a.want, a.seen = r.Intn(1000), r.Intn(1000), anySeen(r, 20)
	return a
}

// memory returns all memory of the arguments, with the spare room, as copies.
func (a asked) memory() []any {
	return []any{slices.Clone(a.row[:cap(a.row)]), slices.Clone(a.cuts[:cap(a.cuts)])}
}

// spoil writes into all memory of results.
func spoil(results [][]any) {
	for _, l := range results {
		for _, x := range l {
			switch v := x.(type) {
			case []int:
				fill(v, -9)
			case [][]int:
				for _, w := range v {
					fill(w, -9)
				}
			case []api.StickSpot:
				fill(v, spot(-9, -9))
			}
		}
	}
}

func fill[T any](l []T, x T) {
	l = l[:cap(l)]
	for k := range l {
		l[k] = x
	}
}

// P2: equal arguments have equal results, no argument changes, and no memory is shared, also not between lists of one result.
func TestEqualAndUnchanged(t *testing.T) {
	r := rand.New(rand.NewSource(10))
	for i := range 1000 {
		a := anyAsked(r)
		before := a.memory()
		first := a.answers()
		again := a.answers()
		if !reflect.DeepEqual(first, again) || !reflect.DeepEqual(a.memory(), before) {
			t.Fatal(i, a, first, again)
		}
		spoil(first)
		if !reflect.DeepEqual(a.memory(), before) || !reflect.DeepEqual(a.answers(), again) {
			t.Fatal(i, "shared memory", a)
		}
		fans, _ := stick.Fans(a.cuts, a.fan)
		for k := range fans {
			others := slices.Concat(slices.Concat(fans[:k]...), slices.Concat(fans[k+1:]...))
			fill(fans[k], -9)
			if !slices.Equal(others, slices.Concat(slices.Concat(fans[:k]...), slices.Concat(fans[k+1:]...))) {
				t.Fatal(i, "lists of one result share memory", a)
			}
		}
	}
}

// P2 and R3: a nil list and an empty one are the same.
func TestNilAndEmpty(t *testing.T) {
	none := asked{fan: fan(2, 0, 0), loss: loss(2, 1), n: 3, want: 3}
	empty := none
	empty.row, empty.cuts = []api.StickMark{}, []api.StickCut{}
	if a, b := none.answers(), empty.answers(); !reflect.DeepEqual(a, b) {
		t.Error(a, b)
	}
}

// wild is a number that is often at a limit, or beyond it.
func wild(r *rand.Rand) int {
	l := []int{math.MinInt, math.MinInt + 1, -1000000, -2, -1, 0, 0, 1, 1, 2, 3, 4, 8, 9, 10, 11, 12, 13, 15, 16, 100, 101, 1000, 1001, 1000000, 1000001, math.MaxInt - 1, math.MaxInt}
	return l[r.Intn(len(l))]
}

// anyWild makes questions of which something is mostly not valid.
func anyWild(r *rand.Rand) asked {
	a := anyAsked(r)
	for range between(r, 1, 3) {
		switch r.Intn(8) {
		case 0:
			a.row = append(a.row, mark(wild(r), wild(r), wild(r)))
		case 1:
			a.row = slices.Repeat(append(a.row, mark(1, 1, 1)), between(r, 1, 3))
		case 2:
			a.stick = wild(r)
		case 3:
			a.cuts = append(a.cuts, cut(wild(r), wild(r), wild(r)))
		case 4:
			a.cuts = slices.Repeat(append(a.cuts, cut(1, 1, 1)), between(r, 1, 3))
		case 5:
			a.fan = fan(wild(r), wild(r), wild(r))
		case 6:
			a.loss = loss(wild(r), wild(r))
		case 7:
			a.n, a.want, a.seen = wild(r), wild(r), strings.Repeat(a.seen+string(rune(wild(r)%256)), between(r, 1, 4))
		}
	}
	return a
}

// P1: nothing panics, and with an error all else is zero.
func TestWildArguments(t *testing.T) {
	r := rand.New(rand.NewSource(11))
	errors := map[api.Errno]int{}
	for i := range 8000 {
		a := anyWild(r)
		for k, l := range a.answers() {
			e := l[len(l)-1].(api.Errno)
			errors[e]++
			for _, x := range l[:len(l)-1] {
				if v := reflect.ValueOf(x); e != api.OK && !v.IsZero() && !(v.Kind() == reflect.Slice && v.Len() == 0) {
					t.Fatal(i, k, a, l)
				}
			}
		}
	}
	for _, e := range []api.Errno{api.OK, api.ErrArg, api.ErrRange, api.ErrForm, api.ErrLong, api.ErrTwice, api.ErrNone, api.ErrFull, api.ErrState} {
		if errors[e] == 0 {
			t.Error("never", e)
		}
	}
}

// P1: the rows with the most spots, truths and looks have an end, too.
func TestGreatest(t *testing.T) {
	wide := mark(15, 1, 12)
	// Sticks that have all spots, and two that have the last two between them: most spots of the first ones leave no truth.
	tight := append(slices.Repeat(row(wide), 6), mark(1, 1, 2), mark(1, 1, 2))
	if _, _, e := stick.Looks(tight); e != api.ErrFull {
		t.Error(e)
	}
	if k, e := stick.First(append(slices.Repeat(row(wide), 7), mark(15, 1, 1))); k != 7 || e != api.OK {
		t.Error(k, e)
	}
	if out, e := stick.Out(slices.Repeat(row(mark(1, 1, 8)), 8)); len(out) != 0 || e != api.OK {
		t.Error(out, e)
	}
	var two []api.StickMark
	for place := range api.MaxStickRow {
		two = append(two, mark(3, place+1, place+1))
	}
	if many, first, e := stick.Looks(two); many != 8 || first != 0 || e != api.OK {
		t.Error(many, first, e)
	}
}
