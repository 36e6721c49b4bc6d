package mix_test

import (
	"math"
	"math/rand"
	"reflect"
	"slices"
	"testing"

	"panache/api"
	"panache/mix"
	"panache/sets"
)

// asked is all that can be asked about a load.
type asked struct {
	l                          api.MixLoad
	one, other, carrier, stuff int
}

// answers returns the results of all functions.
func (a asked) answers() [][]any {
	all := func(l ...any) []any { return l }
	return [][]any{
		all(mix.Check(a.l)), all(mix.Ways(a.l)), all(mix.Can(a.l)), all(mix.Together(a.l, a.one, a.other)), all(mix.Worth(a.l, a.one)), all(mix.Ask(a.l)),
		all(mix.Questions(a.l)), all(mix.Wrong(a.l)), all(mix.Short(a.l)), all(mix.Share(a.l, a.carrier, a.stuff)),
	}
}

// roomy returns a list with spare room, in which something stands.
func roomy[T any](l []T, rest ...T) []T {
	return slices.Concat(l, rest)[:len(l)]
}

// anyAsked makes valid questions at random. Its lists have spare room.
func anyAsked(r *rand.Rand) asked {
	l := anyLoad(r, oneOf(r, tiny, small, large))
	for k := range l.Boxes {
		l.Boxes[k].Held = roomy(l.Boxes[k].Held, to(7, 8), to(9, 9))
	}
	for c := range l.Bills {
		l.Bills[c].Held = roomy(l.Bills[c].Held, to(17, 18), to(19, 19))
	}
	l.Boxes, l.Bills = roomy(l.Boxes, box(at(71)), box(at(72))), roomy(l.Bills, bill(3, at(73)))
	return asked{l, between(r, 0, len(l.Boxes)), between(r, 0, len(l.Boxes)), between(r, 0, len(l.Bills)-1), between(r, 0, len(l.Bills[0].Held)-1)}
}

func whole[T any](l []T) []T { return slices.Clone(l[:cap(l)]) }

// memory returns all memory of the arguments, with the spare room, as copies.
func (a asked) memory() []any {
	var all []any
	for _, b := range whole(a.l.Boxes) {
		all = append(all, len(b.Held), whole(b.Held))
	}
	for _, b := range whole(a.l.Bills) {
		all = append(all, b.Boxes, len(b.Held), whole(b.Held))
	}
	return all
}

// spoil writes into all memory of results.
func spoil(results [][]any) {
	for _, l := range results {
		for _, x := range l {
			switch v := x.(type) {
			case []int:
				fill(v, -9)
			case []api.Span:
				fill(v, to(-9, -9))
			}
		}
	}
}

func fill[T any](l []T, x T) {
	l = l[:cap(l)]
	for k := range l {
		l[k] = x
	}
}

// P2 and R4: equal arguments have equal results, no argument changes, and no memory is shared.
func TestEqualAndUnchanged(t *testing.T) {
	r := rand.New(rand.NewSource(20))
	for i := range 1000 {
		a := anyAsked(r)
		before := a.memory()
		first := a.answers()
		again := a.answers()
		if !reflect.DeepEqual(first, again) || !reflect.DeepEqual(a.memory(), before) {
			t.Fatal(i, a, first, again)
		}
		spoil(first)
		if !reflect.DeepEqual(a.memory(), before) || !reflect.DeepEqual(a.answers(), again) {
			t.Fatal(i, "shared memory", a)
		}
	}
}

// P2 and R3: a nil list and an empty one are the same.
func TestNilAndEmpty(t *testing.T) {
	for i, c := range [][2]asked{
		{{l: api.MixLoad{}}, {l: api.MixLoad{Boxes: boxes(), Bills: []api.MixBill{}}}},
		{{l: load(nil, bill(0, at(0)))}, {l: load([]api.MixBox{}, bill(0, at(0)))}},
		{{l: load(nil, bill(0, at(1)))}, {l: load([]api.MixBox{}, bill(0, at(1)))}},
		{{l: load(boxes(box()), bill(1))}, {l: load(boxes(box(spans()...)), api.MixBill{Boxes: 1, Held: []api.Span{}})}},
		{{l: load(boxes(api.MixBox{}), bill(1, at(1)))}, {l: load(boxes(api.MixBox{Held: []api.Span{}}), bill(1, at(1)))}},
	} {
		if a, b := c[0].answers(), c[1].answers(); !reflect.DeepEqual(a, b) {
			t.Error(i, a, b)
		}
	}
}

// wild is a number that is often at a limit, or beyond it.
func wild(r *rand.Rand) int {
	return oneOf(r, math.MinInt, math.MinInt+1, -1000, -1, 0, 0, 1, 1, 2, 3, 4, 7, 8, 9, 999, 1000, 1001, 9999, 10000, 10001, math.MaxInt-1, math.MaxInt)
}

// anyWild makes questions of which something is mostly not valid.
func anyWild(r *rand.Rand) asked {
	a := anyAsked(r)
	for range between(r, 1, 2) {
		switch r.Intn(9) {
		case 0:
			a.l.Boxes = append(a.l.Boxes, box(to(wild(r), wild(r))))
		case 1:
			a.l.Bills = append(a.l.Bills, bill(wild(r), to(wild(r), wild(r))))
		case 2:
			a.l.Boxes = slices.Repeat(a.l.Boxes, between(r, 0, 3))
		case 3:
			a.l.Bills = slices.Repeat(a.l.Bills, between(r, 0, 2))
		case 4:
			for c := range a.l.Bills {
				a.l.Bills[c].Boxes = wild(r)
			}
		case 5:
			for c := range a.l.Bills {
				a.l.Bills[c].Held = slices.Repeat(spans(to(0, wild(r))), len(a.l.Bills[c].Held))
			}
		case 6:
			for k := range a.l.Boxes {
				a.l.Boxes[k].Held = slices.Repeat(a.l.Boxes[k].Held, between(r, 0, 2))
			}
		case 7:
			a.one, a.other = wild(r), wild(r)
		case 8:
			a.carrier, a.stuff = wild(r), wild(r)
		}
	}
	return a
}

// P1: nothing panics, and with an error all else is zero.
func TestWildArguments(t *testing.T) {
	r := rand.New(rand.NewSource(21))
	errors := map[api.Errno]int{}
	for i := range 5000 {
		a := anyWild(r)
		for k, l := range a.answers() {
			e := l[len(l)-1].(api.Errno)
			errors[e]++
			for _, x := range l[:len(l)-1] {
				if v := reflect.ValueOf(x); e != api.OK && !v.IsZero() && !(v.Kind() == reflect.Slice && v.Len() == 0) {
					t.Fatal(i, k, a, l)
				}
			}
		}
	}
	for _, e := range []api.Errno{api.OK, api.ErrLong, api.ErrNone, api.ErrForm, api.ErrArg, api.ErrState, api.ErrRange, api.ErrFull, api.ErrTwice} {
		if errors[e] == 0 {
			t.Error("never", e)
		}
	}
}

// P1: the greatest loads have an end, too: those with the most ways, and those with none even if all boxes are wrong.
func TestGreatest(t *testing.T) {
	all := sets.Members(255)
	for c := range api.MaxMixCarriers {
		l := alike(3, 3, 2)
		for k := range l.Boxes {
			l.Boxes[k] = box(at(1000), at(1000), at(1000))
		}
		for k := range l.Bills {
			l.Bills[k].Held = slices.Repeat(spans(at(999)), 3)
		}
		// There is more in each box than any bill says.
		if wrong, e := mix.Wrong(l); !slices.Equal(wrong, all) || e != api.OK {
			t.Error(c, wrong, e)
		}
		l.Bills[c].Boxes = 8
		if wrong, e := mix.Wrong(l); len(wrong) != 0 || e != api.ErrNone {
			t.Error(c, wrong, e)
		}
	}
	if many, _, e := mix.Questions(threeHundred()); many != 7 || e != api.OK {
		t.Error(many, e)
	}
}
