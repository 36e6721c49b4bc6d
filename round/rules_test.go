package round_test

import (
	"math"
	"math/rand"
	"reflect"
	"slices"
	"testing"

	"panache/api"
	"panache/round"
)

// asked is all that can be asked about a task.
type asked struct {
	t     api.RoundTask
	order []int
	time  int
}

// answers returns the results of all functions.
func (a asked) answers() [][]any {
	all := func(l ...any) []any { return l }
	return [][]any{
		all(round.Check(a.t)), all(round.Times(a.t, a.order)), all(round.Load(a.t, a.order)), all(round.Fault(a.t, a.order)), all(round.Best(a.t)), all(round.Most(a.t)), all(round.Days(a.t)),
		all(round.Against(a.t)), all(round.Late(a.t, a.order)), all(round.Where(a.t, a.order, a.time)), all(round.Worth(a.t, a.order)),
	}
}

// roomy returns a list with spare room, in which something stands.
func roomy[T any](l []T, rest ...T) []T {
	return slices.Concat(l, rest)[:len(l)]
}

// anyAsked makes valid questions at random. Its lists have spare room.
func anyAsked(r *rand.Rand) asked {
	t := anyTask(r, oneOf(r, tiny, small, small, large))
	t.Holds = max(t.Holds, oneOf(r, 0, api.MaxRoundHolds))
	for k, row := range t.Minutes {
		t.Minutes[k] = roomy(row, to(5, 6), at(7))
	}
	t.Minutes = roomy(t.Minutes, spans(at(8)), nil)
	t.Places = roomy(t.Places, free(), free())
	return asked{t, roomy(anyOrder(r, t), 1, 2, 0), between(r, 0, 100)}
}

func whole[T any](l []T) []T { return slices.Clone(l[:cap(l)]) }

// memory returns all memory of the arguments, with the spare room, as copies.
func (a asked) memory() []any {
	all := []any{whole(a.t.Places), whole(a.order)}
	for _, row := range whole(a.t.Minutes) {
		all = append(all, len(row), whole(row))
	}
	return all
}

// spoil writes into all memory of results.
func spoil(results [][]any) {
	for _, l := range results {
		for _, x := range l {
			switch v := x.(type) {
			case []int:
				fill(v, -9)
			case []api.Span:
				fill(v, to(-9, -9))
			}
		}
	}
}

func fill[T any](l []T, x T) {
	l = l[:cap(l)]
	for k := range l {
		l[k] = x
	}
}

// P2 and R4: equal arguments have equal results, no argument changes, and no memory is shared.
func TestEqualAndUnchanged(t *testing.T) {
	r := rand.New(rand.NewSource(20))
	for i := range 300 {
		a := anyAsked(r)
		before := a.memory()
		first := a.answers()
		again := a.answers()
		if !reflect.DeepEqual(first, again) || !reflect.DeepEqual(a.memory(), before) {
			t.Fatal(i, a, first, again)
		}
		spoil(first)
		if !reflect.DeepEqual(a.memory(), before) || !reflect.DeepEqual(a.answers(), again) {
			t.Fatal(i, "shared memory", a)
		}
	}
}

// P2 and R3: a nil list and an empty one are the same.
func TestNilAndEmpty(t *testing.T) {
	none, empty := even(at(0)), even(at(0))
	none.Places, empty.Places = nil, places([]api.RoundPlace{}...)
	bare := func(l [][]api.Span) asked { return asked{t: api.RoundTask{Minutes: l}} }
	for i, c := range [][2]asked{
		{bare(nil), bare([][]api.Span{})},
		{bare([][]api.Span{nil}), bare([][]api.Span{{}})},
		{{t: none}, {t: empty, order: []int{}}},
		{{t: example()}, {t: example(), order: []int{}}},
	} {
		if a, b := c[0].answers(), c[1].answers(); !reflect.DeepEqual(a, b) {
			t.Error(i, a, b)
		}
	}
}

// wild is a number that is often at a limit, or beyond it.
func wild(r *rand.Rand) int {
	return oneOf(r, math.MinInt, math.MinInt+1, -1, 0, 0, 0, 1, 2, 7, 8, 63, 64, 100, 101, 600, 601, 1000, 1001, 5000, 5001, math.MaxInt-1, math.MaxInt)
}

// anyWild makes questions of which something is mostly not valid.
func anyWild(r *rand.Rand) asked {
	a := anyAsked(r)
	for range between(r, 1, 2) {
		switch r.Intn(8) {
		case 0:
			a.t.Minutes = append(slices.Clip(a.t.Minutes), spans(at(wild(r))))[between(r, 0, 1):]
		case 1:
			from := r.Intn(len(a.t.Minutes))
			a.t.Minutes[from] = append(slices.Clip(a.t.Minutes[from]), at(0))[between(r, 0, 1):]
		case 2:
			if row := a.t.Minutes[r.Intn(len(a.t.Minutes))]; len(row) > 0 {
				row[r.Intn(len(row))] = to(wild(r), wild(r))
			}
		case 3:
			a.t.Places = append(slices.Clip(a.t.Places), slices.Repeat(places(free()), between(r, 0, 7))...)
		case 4:
			if len(a.t.Places) > 0 {
				a.t.Places[r.Intn(len(a.t.Places))] = place(wild(r), wild(r), wild(r), wild(r), wild(r))
			}
		case 5:
			a.t.Holds, a.t.Leaves, a.t.Back = wild(r), wild(r), wild(r)
		case 6:
			a.order = append(slices.Clip(a.order), wild(r))
		case 7:
			a.order, a.time = slices.Repeat(a.order, between(r, 0, 2)), wild(r)
		}
	}
	return a
}

// P1: nothing panics, and with an error all else is zero.
func TestWildArguments(t *testing.T) {
	r := rand.New(rand.NewSource(21))
	errors := map[api.Errno]int{}
	for i := range 3000 {
		a := anyWild(r)
		for k, l := range a.answers() {
			e := l[len(l)-1].(api.Errno)
			errors[e]++
			for _, x := range l[:len(l)-1] {
				if v := reflect.ValueOf(x); e != api.OK && !v.IsZero() && !(v.Kind() == reflect.Slice && v.Len() == 0) {
					t.Fatal(i, k, a, l)
				}
			}
		}
	}
	for _, e := range []api.Errno{api.OK, api.ErrArg, api.ErrRange, api.ErrForm, api.ErrLong, api.ErrTwice, api.ErrNone, api.ErrState} {
		if errors[e] == 0 {
			t.Error("never", e)
		}
	}
}

// P1 and R7: the greatest tasks have an end, too: those whose rounds all serve, and those of which none does.
func TestGreatest(t *testing.T) {
	all := numbersTo(api.MaxRoundPlaces)
	busy := slices.Repeat(places(place(5000, 5000, 0, 100, 100)), api.MaxRoundPlaces)
	can := with(even(at(0), busy...), holding(700), leaving(5000, 5000))
	if l, e := round.Best(can); !slices.Equal(l, all) || e != api.OK {
		t.Error(l, e)
	}
	if l, e := round.Most(can); !slices.Equal(l, all) || e != api.OK {
		t.Error(l, e)
	}
	if n, e := round.Late(can, all); n != 0 || e != api.OK {
		t.Error(n, e)
	}
	tight := with(can, holding(699))
	if l, e := round.Against(tight); !slices.Equal(l, all) || e != api.OK {
		t.Error(l, e)
	}
	if l, e := round.Days(tight); !slices.Equal(l, numbers(0, 0, 0, 0, 0, 0, 1)) || e != api.OK {
		t.Error(l, e)
	}
	far := even(to(0, 600), slices.Repeat(places(place(0, 5000, 600, 100, 100)), api.MaxRoundPlaces)...)
	if l, e := round.Most(far); !slices.Equal(l, numbers(1, 2, 3)) || e != api.OK {
		t.Error(l, e)
	}
	if l, e := round.Days(far); !slices.Equal(l, numbers(0, 0, 0, 1, 1, 1, 2)) || e != api.OK {
		t.Error(l, e)
	}
	if l, e := round.Where(far, all, 5000); !slices.Equal(l, numbers(4, 5, 6, 7)) || e != api.OK {
		t.Error(l, e)
	}
	never := with(far, holding(99))
	if l, e := round.Best(never); len(l) != 0 || e != api.ErrState {
		t.Error(l, e)
	}
	if l, e := round.Days(never); len(l) != 0 || e != api.ErrState {
		t.Error(l, e)
	}
}
