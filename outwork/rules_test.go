package outwork_test

import (
	"math"
	"math/rand"
	"reflect"
	"slices"
	"testing"

	"panache/api"
	"panache/outwork"
	"panache/sets"
)

// asked is all that can be asked about a book.
type asked struct {
	h                          api.OutworkHouse
	b                          []api.OutworkEntry
	worker, stuff, limit, fans int
}

// answers returns the results of all functions.
func (a asked) answers() [][]any {
	all := func(l ...any) []any { return l }
	return [][]any{
		all(outwork.Check(a.h, a.b)), all(outwork.Has(a.h, a.b, a.worker)), all(outwork.Kept(a.h, a.b, a.limit)), all(outwork.Lies(a.h, a.b, a.stuff)), all(outwork.Fans(a.h, a.b, a.worker)), all(outwork.Give(a.h, a.fans)),
		all(outwork.Wrong(a.h, a.b)), all(outwork.Blame(a.h, a.b)), all(outwork.Weigh(a.h, a.b, a.stuff)), all(outwork.Settle(a.h, a.b, a.worker)), all(outwork.Moved(a.h, a.b)),
	}
}

// roomy returns a list with spare room, in which something stands.
func roomy[T any](l []T, rest ...T) []T {
	return slices.Concat(l, rest)[:len(l)]
}

// anyAsked makes valid questions at random. Its lists have spare room.
func anyAsked(r *rand.Rand) asked {
	h, b := anyLarge(r)
	if r.Intn(2) == 0 {
		h, b = anySmall(r, 6)
	}
	h.Takes, h.Lost = roomy(h.Takes, to(7, 8), to(9, 9)), roomy(h.Lost, 77, 78)
	return asked{h: h, b: roomy(b, out(1, 0, 71), done(2, 72), back(3, 0, 73)), worker: between(r, 0, 5), stuff: between(r, 0, len(h.Takes)-1), limit: between(r, 0, 100), fans: between(r, 0, 100)}
}

func whole[T any](l []T) []T { return slices.Clone(l[:cap(l)]) }

// memory returns all memory of the arguments, with the spare room, as copies.
func (a asked) memory() []any { return []any{whole(a.h.Takes), whole(a.h.Lost), whole(a.b)} }

// spoil writes into all memory of results.
func spoil(results [][]any) {
	for _, l := range results {
		for _, x := range l {
			switch v := x.(type) {
			case []int:
				fill(v, -9)
			case []api.Span:
				fill(v, to(-9, -9))
			}
		}
	}
}

func fill[T any](l []T, x T) {
	l = l[:cap(l)]
	for k := range l {
		l[k] = x
	}
}

// P2 and R4: equal arguments have equal results, no argument changes, and no memory is shared.
func TestEqualAndUnchanged(t *testing.T) {
	r := rand.New(rand.NewSource(20))
	for i := range 1000 {
		a := anyAsked(r)
		before := a.memory()
		first := a.answers()
		again := a.answers()
		if !reflect.DeepEqual(first, again) || !reflect.DeepEqual(a.memory(), before) {
			t.Fatal(i, a, first, again)
		}
		spoil(first)
		if !reflect.DeepEqual(a.memory(), before) || !reflect.DeepEqual(a.answers(), again) {
			t.Fatal(i, "shared memory", a)
		}
	}
}

// P2 and R3: a nil list and an empty one are the same.
func TestNilAndEmpty(t *testing.T) {
	for i, c := range [][2]asked{
		{{h: example()}, {h: example(), b: book()}},
		{{h: house(1, nil)}, {h: house(1, spans(), numbers()...)}},
		{{h: house(1, nil, 5), b: exampleBook()}, {h: house(1, spans(), 5), b: exampleBook()}},
		{{h: api.OutworkHouse{Takes: spans(to(1, 1))}}, {h: api.OutworkHouse{Takes: spans(to(1, 1)), Lost: []int{}}, b: book()}},
	} {
		if a, b := c[0].answers(), c[1].answers(); !reflect.DeepEqual(a, b) {
			t.Error(i, a, b)
		}
	}
}

// wild is a number that is often at a limit, or beyond it.
func wild(r *rand.Rand) int {
	return oneOf(r, math.MinInt, math.MinInt+1, -100000, -1, 0, 0, 1, 1, 2, 3, 4, 5, 6, 99, 100, 101, 499, 500, 501, 999, 1000, 1001, 99999, 100000, 100001, math.MaxInt-1, math.MaxInt)
}

// anyWild makes questions of which something is mostly not valid.
func anyWild(r *rand.Rand) asked {
	a := anyAsked(r)
	for range between(r, 1, 2) {
		switch r.Intn(9) {
		case 0:
			a.h.Scales = wild(r)
		case 1:
			a.h.Takes = append(a.h.Takes, to(wild(r), wild(r)))
			a.h.Lost = append(a.h.Lost, wild(r))
		case 2:
			a.h.Lost = slices.Repeat(a.h.Lost, between(r, 0, 2))
		case 3:
			a.h.Takes[0] = to(wild(r), wild(r))
		case 4:
			a.b = append(a.b, api.OutworkEntry{Worker: wild(r), Kind: api.OutworkKind(wild(r)), Stuff: wild(r), Count: wild(r)})
		case 5:
			a.b = slices.Insert(a.b, 0, oneOf(r, out, back)(between(r, 0, 6), between(r, 0, 4), wild(r)), done(between(r, 0, 6), wild(r)))
		case 6:
			a.b = slices.Repeat(a.b, between(r, 0, 3))
		case 7:
			a.worker, a.stuff = wild(r), wild(r)
		case 8:
			a.limit, a.fans = wild(r), wild(r)
		}
	}
	return a
}

// P1: nothing panics, and with an error all else is zero.
func TestWildArguments(t *testing.T) {
	r := rand.New(rand.NewSource(21))
	errors := map[api.Errno]int{}
	for i := range 5000 {
		a := anyWild(r)
		for k, l := range a.answers() {
			e := l[len(l)-1].(api.Errno)
			errors[e]++
			for _, x := range l[:len(l)-1] {
				if v := reflect.ValueOf(x); e != api.OK && !v.IsZero() && !(v.Kind() == reflect.Slice && v.Len() == 0) {
					t.Fatal(i, k, a, l)
				}
			}
		}
	}
	for _, e := range []api.Errno{api.OK, api.ErrRange, api.ErrForm, api.ErrArg, api.ErrLong, api.ErrNone, api.ErrFull, api.ErrState, api.ErrTwice} {
		if errors[e] == 0 {
			t.Error("never", e)
		}
	}
}

// P1: the greatest books, in which all entries are wrong, or none is, have an end, too.
func TestGreatest(t *testing.T) {
	h := house(100, spans(to(0, 1000), to(1000, 1000), to(1, 1), to(0, 0)), 1000, 999, 1, 0)
	var wrong, right []api.OutworkEntry
	for k := range api.MaxOutworkEntries {
		wrong = append(wrong, back(k%api.MaxOutworkWorkers, k%4, 100000))
		right = append(right, out(k%api.MaxOutworkWorkers, k%4, 100000))
	}
	if l, e := outwork.Wrong(h, wrong); !slices.Equal(l, sets.Members(1<<12-1)) || e != api.OK {
		t.Error(l, e)
	}
	if l, e := outwork.Blame(h, wrong); !slices.Equal(l, slices.Repeat(spans(to(1, 0)), 12)) || e != api.OK {
		t.Error(l, e)
	}
	if l, e := outwork.Moved(h, wrong); len(l) != 0 || e != api.ErrNone {
		t.Error(l, e)
	}
	if l, e := outwork.Blame(h, right); !slices.Equal(l, slices.Repeat(spans(to(0, 100000)), 12)) || e != api.OK {
		t.Error(l, e)
	}
	if home, fans, lost, e := outwork.Lies(h, right, 1); home != to(3*(99900-99800), 300300) || fans != to(0, 0) || lost != to(0, 3*(100100*999/1000)) || e != api.OK {
		t.Error(home, fans, lost, e)
	}
}
