package guard_test

import (
	"math"
	"math/rand"
	"reflect"
	"slices"
	"testing"

	"panache/api"
	"panache/guard"
)

// asked is all that can be asked about guards.
type asked struct {
	s    api.GuardStock
	g    api.GuardGauge
	a, b api.Guard
}

// answers returns the results of all functions.
func (a asked) answers() [][]any {
	all := func(l ...any) []any { return l }
	return [][]any{
		all(guard.Check(a.s, a.g)), all(guard.Alike(a.a, a.b, a.g)), all(guard.Pairs(a.s, a.g)), all(guard.Possible(a.s, a.g)), all(guard.Cover(a.s, a.g)),
		all(guard.Spare(a.s, a.g)), all(guard.Twins(a.s, a.g)), all(guard.Cut(a.s, a.g)), all(guard.Look(a.s, a.g)), all(guard.Balance(a.s, a.g)),
	}
}

// roomy returns a list with spare room, in which something stands.
func roomy[T any](l []T, rest ...T) []T {
	return slices.Concat(l, rest)[:len(l)]
}

// roomyGuards returns guards with spare room in all their lists.
func roomyGuards(l []api.Guard) []api.Guard {
	var roomier []api.Guard
	for _, a := range l {
		roomier = append(roomier, one(a.Weight, roomy(a.Curve, 77, 78)...))
	}
	return roomy(roomier, one(76), one(75), one(74))
}

// anyAsked makes valid questions at random. Its lists have spare room.
func anyAsked(r *rand.Rand) asked {
	s := anyStock(r, api.MaxGuardSide)
	if r.Intn(2) == 0 {
		s = evenStock(r, between(r, 0, api.MaxGuardSide))
	}
	l := roomyGuards(anyGuards(r, 2, between(r, 1, 4), between(r, 1, 9999), 8))
	return asked{s: stock(roomyGuards(s.Left), roomyGuards(s.Right)), g: anyGauge(r, 3), a: l[0], b: l[1]}
}

func whole[T any](l []T) []T { return slices.Clone(l[:cap(l)]) }

// memory returns all memory of the arguments, with the spare room, as copies.
func (a asked) memory() []any {
	var all []any
	for _, l := range [][]api.Guard{whole(a.s.Left), whole(a.s.Right), {a.a, a.b}} {
		for _, x := range l {
			all = append(all, x.Weight, len(x.Curve), whole(x.Curve))
		}
	}
	return all
}

// spoil writes into all memory of results.
func spoil(results [][]any) {
	for _, l := range results {
		for _, x := range l {
			switch v := x.(type) {
			case []int:
				fill(v, -9)
			case []api.GuardPair:
				fill(v, api.GuardPair{Left: -9, Right: -9})
			}
		}
	}
}

func fill[T any](l []T, x T) {
	l = l[:cap(l)]
	for k := range l {
		l[k] = x
	}
}

// P2: equal arguments have equal results, no argument changes, and no memory is shared.
func TestEqualAndUnchanged(t *testing.T) {
	r := rand.New(rand.NewSource(20))
	for i := range 500 {
		a := anyAsked(r)
		before := a.memory()
		first := a.answers()
		again := a.answers()
		if !reflect.DeepEqual(first, again) || !reflect.DeepEqual(a.memory(), before) {
			t.Fatal(i, a, first, again)
		}
		spoil(first)
		if !reflect.DeepEqual(a.memory(), before) || !reflect.DeepEqual(a.answers(), again) {
			t.Fatal(i, "shared memory", a)
		}
	}
}

// P2 and R3: a nil list and an empty one are the same.
func TestNilAndEmpty(t *testing.T) {
	nothing := api.Guard{Weight: 1}
	empty := api.Guard{Weight: 1, Curve: []int{}}
	for i, c := range [][2]asked{
		{{a: nothing, b: nothing}, {s: stock([]api.Guard{}, []api.Guard{}), a: empty, b: empty}},
		{{s: stock(straight(5, 6), nil), g: exampleGauge}, {s: stock(straight(5, 6), []api.Guard{}), g: exampleGauge}},
		{{s: stock(nil, straight(5, 6)), g: exampleGauge}, {s: stock([]api.Guard{}, straight(5, 6)), g: exampleGauge}},
		{{s: stock([]api.Guard{nothing}, nil)}, {s: stock([]api.Guard{empty}, nil)}},
	} {
		if a, b := c[0].answers(), c[1].answers(); !reflect.DeepEqual(a, b) {
			t.Error(i, a, b)
		}
	}
}

// wild is a number that is often at a limit, or beyond it.
func wild(r *rand.Rand) int {
	l := []int{math.MinInt, math.MinInt + 1, -10000, -1, 0, 0, 1, 1, 2, 99, 100, 101, 499, 500, 501, 9999, 10000, 10001, math.MaxInt - 1, math.MaxInt}
	return l[r.Intn(len(l))]
}

func wildGuard(r *rand.Rand, marks int) api.Guard {
	a := api.Guard{Weight: wild(r)}
	for range marks {
		a.Curve = append(a.Curve, wild(r))
	}
	return a
}

// anyWild makes questions of which something is mostly not valid.
func anyWild(r *rand.Rand) asked {
	a := anyAsked(r)
	for range between(r, 1, 2) {
		switch r.Intn(8) {
		case 0:
			a.g = gauge(wild(r), wild(r), wild(r), wild(r))
		case 1:
			a.g.Scales, a.g.Gauge = wild(r), wild(r)
		case 2:
			a.s.Left = append(a.s.Left, wildGuard(r, 1))
		case 3:
			a.s.Right = slices.Insert(a.s.Right, 0, wildGuard(r, between(r, 0, 5)))
		case 4:
			a.s.Left = slices.Repeat(a.s.Left, between(r, 0, 3))
		case 5:
			a.s.Right = slices.Repeat(a.s.Right, between(r, 0, 3))
		case 6:
			a.a = wildGuard(r, between(r, 0, 5))
		case 7:
			a.b = wildGuard(r, len(a.a.Curve))
		}
	}
	return a
}

// P1: nothing panics, and with an error all else is zero.
func TestWildArguments(t *testing.T) {
	r := rand.New(rand.NewSource(21))
	errors := map[api.Errno]int{}
	for i := range 5000 {
		a := anyWild(r)
		for k, l := range a.answers() {
			e := l[len(l)-1].(api.Errno)
			errors[e]++
			for _, x := range l[:len(l)-1] {
				if v := reflect.ValueOf(x); e != api.OK && !v.IsZero() && !(v.Kind() == reflect.Slice && v.Len() == 0) {
					t.Fatal(i, k, a, l)
				}
			}
		}
	}
	for _, e := range []api.Errno{api.OK, api.ErrLong, api.ErrForm, api.ErrArg, api.ErrRange, api.ErrNone, api.ErrState} {
		if errors[e] == 0 {
			t.Error("never", e)
		}
	}
}

// P1: the greatest stocks, in which all guards are alike, and those in which each one has two partners, have an end, too.
func TestGreatest(t *testing.T) {
	chain := func(from int) []api.Guard {
		l := straight(from, from+2, from+4, from+6, from+8, from+10, from+12, from+14)
		for k := range l {
			l[k].Curve = []int{500, 0, 500, 0}
		}
		return l
	}
	s, g := stock(chain(9000), chain(9001)), exact(1)
	slices.Reverse(s.Left)
	for _, g := range []api.GuardGauge{g, gauge(100, 100, 10000, 500)} {
		if l := pairsOf(s, g); len(l) != 8 {
			t.Error(l)
		}
		if n, e := guard.Possible(s, g); n != 8 || e != api.OK {
			t.Error(n, e)
		}
	}
	if left, right, e := guard.Cover(s, g); left != nil || len(right) != 8 || e != api.OK {
		t.Error(left, right, e)
	}
	if l, worst, e := guard.Balance(s, g); !slices.Equal(l, pairs(0, 7, 1, 6, 2, 5, 3, 4, 4, 3, 5, 2, 6, 1, 7, 0)) || worst != 1 || e != api.OK {
		t.Error(l, worst, e)
	}
}
