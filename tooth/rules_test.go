package tooth_test

import (
	"math"
	"math/rand"
	"reflect"
	"slices"
	"testing"

	"panache/api"
	"panache/tooth"
)

// asked is all that can be asked about a blade.
type asked struct {
	blade  api.ToothBlade
	saw    api.ToothSaw
	place  api.ToothPlace
	layout []api.ToothPlace
	sticks int
}

// answers returns the results of all functions.
func (a asked) answers() [][]any {
	all := func(l ...any) []any { return l }
	return [][]any{
		all(tooth.Check(a.blade)), all(tooth.Curve(a.blade)), all(tooth.Fits(a.blade, a.saw, a.place)),
		all(tooth.Block(a.blade, a.saw, a.place.X)), all(tooth.Most(a.blade, a.saw)), all(tooth.Fault(a.blade, a.saw, a.layout)),
		all(tooth.Bound(a.blade, a.saw)), all(tooth.Possible(a.blade, a.saw)), all(tooth.Costs(a.blade, a.saw)),
		all(tooth.Look(a.blade, a.saw)), all(tooth.Widest(a.blade, a.saw, a.sticks)),
	}
}

// roomy copies a list into one with spare room, which has copies of an element.
func roomy[T any](l []T, fill T) []T {
	return append(append(make([]T, 0, len(l)+3), l...), fill, fill, fill)[:len(l)]
}

// copied returns a copy with spare room that is all its own.
func (a asked) copied() asked {
	a.blade.Bottom = roomy(a.blade.Bottom, to(77, 78))
	a.blade.Top = roomy(a.blade.Top, to(77, 78))
	a.blade.Cracks = roomy(a.blade.Cracks, crack(to(7, 7), to(7, 7), to(7, 7)))
	a.layout = roomy(a.layout, at(7, 7))
	return a
}

// whole returns all the memory of the arguments, with the spare room.
func (a asked) whole() []any {
	return []any{a.blade.Bottom[:cap(a.blade.Bottom)], a.blade.Top[:cap(a.blade.Top)], a.blade.Cracks[:cap(a.blade.Cracks)], a.layout[:cap(a.layout)]}
}

// spoil writes into all memory of results.
func spoil(results [][]any) {
	for _, l := range results {
		for _, x := range l {
			switch v := x.(type) {
			case []api.Span:
				fill(v, to(-9, -9))
			case []int:
				fill(v, -9)
			case []api.ToothPlace:
				fill(v, at(-9, -9))
			}
		}
	}
}

func fill[T any](l []T, x T) {
	l = l[:cap(l)]
	for k := range l {
		l[k] = x
	}
}

// anyAsked makes valid questions at random.
func anyAsked(r *rand.Rand) asked {
	b, s := anyBlade(r, size{columns: 8, high: 40, doubt: 4, cracks: 4, where: 5, kerf: 3})
	a := asked{blade: b, saw: s, place: at(between(r, 0, max(0, len(b.Bottom)-s.Long)), between(r, 0, 40)), sticks: between(r, 1, 20)}
	a.layout, _ = tooth.Most(b, s)
	return a
}

// P2: equal arguments have equal results, no argument changes, and no memory is shared.
func TestEqualAndUnchanged(t *testing.T) {
	r := rand.New(rand.NewSource(8))
	for i := range 500 {
		a := anyAsked(r).copied()
		before := a.copied()
		first := a.answers()
		again := before.answers()
		if !reflect.DeepEqual(first, again) || !reflect.DeepEqual(a.whole(), before.whole()) {
			t.Fatal(i, a, first, again)
		}
		spoil(first)
		if !reflect.DeepEqual(a.whole(), before.whole()) || !reflect.DeepEqual(a.answers(), again) {
			t.Fatal(i, "shared memory", a)
		}
	}
}

// P2 and R3: a nil list and an empty one are the same.
func TestNilAndEmpty(t *testing.T) {
	none := asked{blade: plain(3, 0, 20), saw: saw(2, 5, 0, 0), sticks: 3}
	empty := none
	empty.blade.Cracks, empty.layout = []api.ToothCrack{}, []api.ToothPlace{}
	if a, b := none.answers(), empty.answers(); !reflect.DeepEqual(a, b) {
		t.Error(a, b)
	}
	if e := tooth.Check(api.ToothBlade{Bottom: []api.Span{}, Top: nil}); e != api.ErrForm {
		t.Error(e)
	}
}

// wild is a number that is often at a limit, or beyond it.
func wild(r *rand.Rand) int {
	l := []int{math.MinInt, math.MinInt + 1, -301, -1, 0, 0, 1, 1, 2, 3, 5, 9, 29, 30, 31, 50, 51, 299, 300, 301, 400, 401, math.MaxInt - 1, math.MaxInt}
	return l[r.Intn(len(l))]
}

func wildSpans(r *rand.Rand, n int) []api.Span {
	var l []api.Span
	for range n {
		l = append(l, to(wild(r), wild(r)))
	}
	return l
}

// anyWild makes questions of which something is mostly not valid.
func anyWild(r *rand.Rand) asked {
	a := anyAsked(r)
	for range between(r, 1, 2) {
		switch r.Intn(9) {
		case 0:
			a.blade.Bottom = wildSpans(r, r.Intn(33))
		case 1:
			a.blade.Top[r.Intn(len(a.blade.Top))] = to(wild(r), wild(r))
		case 2:
			a.blade.Bend = wild(r)
		case 3:
			a.blade.Cracks = append(a.blade.Cracks, crack(to(wild(r), wild(r)), to(wild(r), wild(r)), to(wild(r), wild(r))))
		case 4:
			a.saw = saw(wild(r), wild(r), wild(r), wild(r))
		case 5:
			a.place = at(wild(r), wild(r))
		case 6:
			a.layout = append(a.layout, at(wild(r), wild(r)))
		case 7:
			a.layout = slices.Repeat([]api.ToothPlace{at(wild(r), wild(r))}, 401)
		case 8:
			a.sticks = wild(r)
		}
	}
	return a
}

// P1: nothing panics, and with an error all else is zero.
func TestWildArguments(t *testing.T) {
	r := rand.New(rand.NewSource(9))
	errors := map[api.Errno]int{}
	for i := range 20000 {
		a := anyWild(r)
		for k, l := range a.answers() {
			e := l[len(l)-1].(api.Errno)
			errors[e]++
			for _, x := range l[:len(l)-1] {
				if v := reflect.ValueOf(x); e != api.OK && !v.IsZero() && !(v.Kind() == reflect.Slice && v.Len() == 0) {
					t.Fatal(i, k, a, l)
				}
			}
		}
	}
	for _, e := range []api.Errno{api.OK, api.ErrArg, api.ErrRange, api.ErrForm, api.ErrLong, api.ErrNone, api.ErrState} {
		if errors[e] == 0 {
			t.Error("never", e)
		}
	}
}

// P1: the greatest blades have an end, too.
func TestGreatest(t *testing.T) {
	b := api.ToothBlade{Bottom: same(30, to(0, 100)), Top: same(30, to(200, 300)), Bend: 300}
	b.Cracks = slices.Repeat([]api.ToothCrack{crack(to(10, 14), to(100, 120), to(130, 200))}, api.MaxToothCracks)
	s := saw(1, 1, 0, 0)
	if n := count(t, b, s); n != 25*100 {
		t.Error(n)
	}
	if n, class, e := tooth.Bound(b, s); n != 25*100 || class != 0 || e != api.OK {
		t.Error(n, class, e)
	}
	if n, l, e := tooth.Possible(b, s); n != 30*300-10 || !slices.Equal(l, []int{10, 10, 10, 10}) || e != api.OK {
		t.Error(n, l, e)
	}
	if column, gain, e := tooth.Look(b, s); column != 0 || gain != 200 || e != api.OK {
		t.Error(column, gain, e)
	}
	if n, e := tooth.Widest(b, s, api.MaxToothPlaces); n != 6 || e != api.OK {
		t.Error(n, e)
	}
}
