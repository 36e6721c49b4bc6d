package rivet_test

import (
	"math"
	"math/rand"
	"reflect"
	"slices"
	"testing"

	"panache/api"
	"panache/rivet"
)

// asked is all that can be asked about rivets.
type asked struct {
	f, other      api.RivetFan
	more, degrees int
	seen, rivet   api.Span
	sticks        []api.RivetStick
}

// answers returns the results of all functions.
func (a asked) answers() [][]any {
	all := func(l ...any) []any { return l }
	return [][]any{
		all(rivet.Check(a.f)), all(rivet.Opens(a.f)), all(rivet.Stops(a.f)), all(rivet.Compare(a.f, a.other)),
		all(rivet.Widen(a.f, a.more)), all(rivet.Wrong(a.f, a.seen)), all(rivet.Sticks(a.f, a.degrees)), all(rivet.Pleat(a.f, a.degrees)),
		all(rivet.Closed(a.sticks)), all(rivet.Balance(a.sticks)), all(rivet.Holds(a.sticks, a.rivet)),
	}
}

// roomy returns a list with spare room.
func roomy[T any](l []T) []T { return slices.Grow(slices.Clone(l), 3) }

// anyAsked makes valid questions at random. Its lists have spare room.
func anyAsked(r *rand.Rand) asked {
	z := []size{small, middle, large}[r.Intn(3)]
	a := asked{f: anyFan(r, z), other: anyFan(r, z), more: between(r, 0, z.leaf), degrees: between(r, 0, 360), rivet: anySpan(r, 0, api.MaxRivetFar, 50), sticks: roomy(anySticks(r, z))}
	a.f.Gaps, a.other.Gaps = roomy(a.f.Gaps), roomy(a.other.Gaps)
	a.seen = anySpan(r, 0, opens(a.f).Low, 9)
	return a
}

func whole[T any](l []T) []T { return slices.Clone(l[:cap(l)]) }

// memory returns all memory of the arguments, with the spare room, as copies.
func (a asked) memory() []any {
	return []any{whole(a.f.Gaps), whole(a.other.Gaps), whole(a.sticks)}
}

// spoil writes into all memory of results.
func spoil(results [][]any) {
	for _, l := range results {
		for _, x := range l {
			switch v := x.(type) {
			case []int:
				fill(v, -9)
			case []api.RivetStop:
				fill(v, -9)
			}
		}
	}
}

func fill[T any](l []T, x T) {
	l = l[:cap(l)]
	for k := range l {
		l[k] = x
	}
}

// P2: equal arguments have equal results, no argument changes, and no memory is shared.
func TestEqualAndUnchanged(t *testing.T) {
	r := rand.New(rand.NewSource(20))
	for i := range 500 {
		a := anyAsked(r)
		before := a.memory()
		first := a.answers()
		again := a.answers()
		if !reflect.DeepEqual(first, again) || !reflect.DeepEqual(a.memory(), before) {
			t.Fatal(i, a, first, again)
		}
		spoil(first)
		if !reflect.DeepEqual(a.memory(), before) || !reflect.DeepEqual(a.answers(), again) {
			t.Fatal(i, "shared memory", a)
		}
	}
}

// P2 and R3: a nil list and an empty one are the same.
func TestNilAndEmpty(t *testing.T) {
	none := asked{f: fan(at(9), at(1)), other: fan(at(9), at(1)), seen: at(1)}
	empty := none
	empty.f.Gaps, empty.other.Gaps, empty.sticks = []api.RivetGap{}, []api.RivetGap{}, []api.RivetStick{}
	for range 2 {
		if a, b := none.answers(), empty.answers(); !reflect.DeepEqual(a, b) {
			t.Error(a, b)
		}
		none.seen, empty.seen = at(0), at(0)
	}
}

// wild is a number that is often at a limit, or beyond it.
func wild(r *rand.Rand) int {
	l := []int{math.MinInt, math.MinInt + 1, -5001, -1, 0, 0, 1, 1, 2, 40, 41, 100, 101, 360, 361, 500, 501, 1000, 1001, 4999, 5000, 5001, 10000, 10001, math.MaxInt - 1, math.MaxInt}
	return l[r.Intn(len(l))]
}

func wildSpan(r *rand.Rand) api.Span { return to(wild(r), wild(r)) }

// anyWild makes questions of which something is mostly not valid.
func anyWild(r *rand.Rand) asked {
	a := anyAsked(r)
	for range between(r, 1, 3) {
		switch r.Intn(10) {
		case 0:
			a.f.Far = wildSpan(r)
		case 1:
			a.f.Near = wildSpan(r)
		case 2:
			a.f.Gaps = append(a.f.Gaps, gap(wildSpan(r), wildSpan(r)))
		case 3:
			a.f.Gaps = slices.Repeat(append(a.f.Gaps, arcs(1, 1)), between(r, 1, 9))
		case 4:
			a.other = fan(wildSpan(r), wildSpan(r), gap(wildSpan(r), wildSpan(r)))
		case 5:
			a.more, a.degrees = wild(r), wild(r)
		case 6:
			a.seen = wildSpan(r)
		case 7:
			a.rivet = wildSpan(r)
		case 8:
			a.sticks = append(a.sticks, stick(wildSpan(r), wildSpan(r), wild(r)))
		case 9:
			a.sticks = slices.Repeat(append(a.sticks, weighed(at(1), 1)), between(r, 1, 9))
		}
	}
	return a
}

// P1: nothing panics, and with an error all else is zero.
func TestWildArguments(t *testing.T) {
	r := rand.New(rand.NewSource(21))
	errors := map[api.Errno]int{}
	for i := range 5000 {
		a := anyWild(r)
		for k, l := range a.answers() {
			e := l[len(l)-1].(api.Errno)
			errors[e]++
			for _, x := range l[:len(l)-1] {
				if v := reflect.ValueOf(x); e != api.OK && !v.IsZero() && !(v.Kind() == reflect.Slice && v.Len() == 0) {
					t.Fatal(i, k, a, l)
				}
			}
		}
	}
	for _, e := range []api.Errno{api.OK, api.ErrArg, api.ErrRange, api.ErrForm, api.ErrLong, api.ErrNone, api.ErrState} {
		if errors[e] == 0 {
			t.Error("never", e)
		}
	}
}

// P1 and R5: the greatest fans and sticks have an end, too, and all their numbers fit.
func TestGreatest(t *testing.T) {
	// All angles of the greatest sum that both distances leave: 500 / 4999 each, with the greatest common number of parts.
	f := fan(at(5000), at(4999), slices.Repeat([]api.RivetGap{arcs(1000, 500)}, 40)...)
	if s := opens(f); s != at(229) {
		t.Error(s)
	}
	g := fan(at(5000), at(4999), append(slices.Repeat([]api.RivetGap{arcs(1000, 500)}, 39), arcs(1000, 499))...)
	if m, e := rivet.Compare(f, g); m != api.RivetFirst || e != api.OK {
		t.Error(m, e)
	}
	if gap, n, e := rivet.Widen(g, 1000); gap != 0 || n != 229 || e != api.OK {
		t.Error(gap, n, e)
	}
	// Without 20 gaps it is 114.6 degrees.
	if l, e := rivet.Wrong(f, at(114)); len(l) != 20 || l[19] != 19 || e != api.OK {
		t.Error(l, e)
	}
	if n, e := rivet.Pleat(f, 229); n != 500 || e != api.OK {
		t.Error(n, e)
	}
	l := slices.Repeat([]api.RivetStick{stick(at(10000), at(100), 5000)}, 12)
	if least, most, e := rivet.Balance(l); least != ratio(5000, 1) || most != ratio(5000, 1) || e != api.OK {
		t.Error(least, most, e)
	}
}
