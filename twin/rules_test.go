package twin_test

import (
	"math"
	"math/rand"
	"reflect"
	"slices"
	"testing"

	"panache/api"
	"panache/twin"
)

// asked is all that can be asked about fans.
type asked struct {
	g      api.TwinGauge
	l      []api.TwinFan
	a, b   api.TwinFan
	family []int
}

// answers returns the results of all functions.
func (a asked) answers() [][]any {
	all := func(l ...any) []any { return l }
	return [][]any{
		all(twin.Check(a.g, a.l)), all(twin.Pattern(a.g, a.l)), all(twin.Twins(a.g, a.l)), all(twin.Most(a.g, a.l)), all(twin.Wrong(a.g, a.l)), all(twin.Copy(a.g, a.a, a.b)),
		all(twin.Families(a.g, a.l)), all(twin.Originals(a.g, a.l)), all(twin.Truth(a.g, a.l, a.family)), all(twin.Blame(a.g, a.l, a.family)), all(twin.Look(a.g, a.l)),
	}
}

// roomy returns a list with spare room, in which something stands.
func roomy[T any](l []T, rest ...T) []T {
	return slices.Concat(l, rest)[:len(l)]
}

// anyAsked makes valid questions at random. Its lists have spare room.
func anyAsked(r *rand.Rand) asked {
	g, l := anyFans(r, oneOf(r, tiny, few, many, large))
	for k := range l {
		l[k].Measures = roomy(l[k].Measures, 7, 8)
	}
	g.Off, g.Make, g.Copy = roomy(g.Off, 1, 2), roomy(g.Make, 3, 4), roomy(g.Copy, to(5, 6), at(7))
	l = roomy(l, fan(71), fan(72), fan(73))
	for len(l) < 2 {
		l = append(slices.Clip(l), fan(slices.Repeat(numbers(50), len(g.Off))...))
	}
	return asked{g, l, l[0], l[1], roomy(anyFamily(r, len(l)), -1, 0, 1)}
}

func whole[T any](l []T) []T { return slices.Clone(l[:cap(l)]) }

// memory returns all memory of the arguments, with the spare room, as copies.
func (a asked) memory() []any {
	all := []any{whole(a.g.Off), whole(a.g.Make), whole(a.g.Copy), whole(a.family)}
	for _, x := range append(whole(a.l), a.a, a.b) {
		all = append(all, len(x.Measures), whole(x.Measures))
	}
	return all
}

// spoil writes into all memory of results.
func spoil(results [][]any) {
	for _, l := range results {
		for _, x := range l {
			switch v := x.(type) {
			case []int:
				fill(v, -9)
			case []api.Span:
				fill(v, to(-9, -9))
			case []api.TwinSlip:
				fill(v, api.TwinSlip{Measure: -9, Fan: -9})
			case [][]api.Span:
				for _, row := range v {
					fill(row, to(-9, -9))
				}
				fill(v, nil)
			}
		}
	}
}

func fill[T any](l []T, x T) {
	l = l[:cap(l)]
	for k := range l {
		l[k] = x
	}
}

// P2 and R4: equal arguments have equal results, no argument changes, and no memory is shared.
func TestEqualAndUnchanged(t *testing.T) {
	r := rand.New(rand.NewSource(20))
	for i := range 500 {
		a := anyAsked(r)
		before := a.memory()
		first := a.answers()
		again := a.answers()
		if !reflect.DeepEqual(first, again) || !reflect.DeepEqual(a.memory(), before) {
			t.Fatal(i, a, first, again)
		}
		spoil(first)
		if !reflect.DeepEqual(a.memory(), before) || !reflect.DeepEqual(a.answers(), again) {
			t.Fatal(i, "shared memory", a)
		}
	}
}

// R4: what each fan truly is has memory of its own.
func TestRowsShareNothing(t *testing.T) {
	l, e := twin.Truth(exampleGauge(), example(), numbers(-1, 0, 0))
	if len(l) != 3 || e != api.OK {
		t.Fatal(l, e)
	}
	for f := range l {
		fill(l[f], at(f))
	}
	for f, row := range l {
		if !slices.Equal(row, spans(at(f), at(f))) {
			t.Error(f, row)
		}
	}
}

// P2 and R3: a nil list and an empty one are the same.
func TestNilAndEmpty(t *testing.T) {
	one, empty := gauge(1, 1, at(0)), api.TwinGauge{Off: []int{}, Make: []int{}, Copy: spans([]api.Span{}...)}
	for i, c := range [][2]asked{
		{{}, {g: empty, l: []api.TwinFan{}, family: []int{}}},
		{{g: one}, {g: one, l: []api.TwinFan{}, family: []int{}}},
		{{g: one, l: single(5)}, {g: one, l: single(5), family: []int{}}},
		{{g: one, l: fans(api.TwinFan{})}, {g: one, l: fans(api.TwinFan{Measures: []int{}})}},
		{{g: one, a: api.TwinFan{}, b: fan(1)}, {g: one, a: api.TwinFan{Measures: []int{}}, b: fan(1)}},
	} {
		if a, b := c[0].answers(), c[1].answers(); !reflect.DeepEqual(a, b) {
			t.Error(i, a, b)
		}
	}
}

// wild is a number that is often at a limit, or beyond it.
func wild(r *rand.Rand) int {
	return oneOf(r, math.MinInt, math.MinInt+1, -101, -100, -2, -1, 0, 0, 1, 1, 2, 3, 4, 5, 6, 100, 101, 9999, 10000, 10001, math.MaxInt-1, math.MaxInt)
}

// anyWild makes questions of which something is mostly not valid.
func anyWild(r *rand.Rand) asked {
	a := anyAsked(r)
	for range between(r, 1, 2) {
		switch r.Intn(9) {
		case 0:
			a.g.Off = append(slices.Clip(a.g.Off), wild(r))[between(r, 0, 1):]
		case 1:
			a.g.Make = append(slices.Clip(a.g.Make), wild(r))[between(r, 0, 1):]
		case 2:
			a.g.Copy = append(slices.Clip(a.g.Copy), to(wild(r), wild(r)))[between(r, 0, 1):]
		case 3:
			a.g = oneOf(r, gauges(a.g, a.g), gauges(a.g, gauge(wild(r), wild(r), to(wild(r), wild(r)))), api.TwinGauge{})
		case 4:
			a.l = slices.Repeat(a.l, between(r, 0, 3))
		case 5:
			a.l = append(slices.Clip(a.l), fan(slices.Repeat(numbers(wild(r)), between(r, 0, 4))...))
		case 6:
			for f := range a.l {
				a.l[f].Measures = slices.Repeat(numbers(wild(r)), len(a.l[f].Measures))
			}
		case 7:
			a.a, a.b = fan(wild(r)), fan(slices.Repeat(numbers(wild(r)), between(r, 0, 4))...)
		case 8:
			for k := range a.family {
				a.family[k] = wild(r)
			}
			a.family = slices.Repeat(a.family, between(r, 0, 2))
		}
	}
	return a
}

// P1: nothing panics, and with an error all else is zero.
func TestWildArguments(t *testing.T) {
	r := rand.New(rand.NewSource(21))
	errors := map[api.Errno]int{}
	for i := range 5000 {
		a := anyWild(r)
		for k, l := range a.answers() {
			e := l[len(l)-1].(api.Errno)
			errors[e]++
			for _, x := range l[:len(l)-1] {
				if v := reflect.ValueOf(x); e != api.OK && !v.IsZero() && !(v.Kind() == reflect.Slice && v.Len() == 0) {
					t.Fatal(i, k, a, l)
				}
			}
		}
	}
	for _, e := range []api.Errno{api.OK, api.ErrForm, api.ErrArg, api.ErrLong, api.ErrRange, api.ErrTwice, api.ErrNone, api.ErrState} {
		if errors[e] == 0 {
			t.Error("never", e)
		}
	}
}

// P1 and R7: the greatest gauges and lists of fans have an end, too: those with all families that one original has.
func TestGreatest(t *testing.T) {
	widest := gauge(api.MaxTwinOff, api.MaxTwinMake, to(-api.MaxTwinMake, api.MaxTwinMake))
	g := gauges(widest, widest, widest, widest)
	for _, n := range []int{0, 5000, api.MaxTwinLong} {
		l := slices.Repeat(fans(fan(n, n, n, n)), api.MaxTwinFans)
		if many, first, e := twin.Families(g, l); many != 625 || !slices.Equal(first, numbers(-1, 0, 0, 0, 0)) || e != api.OK {
			t.Error(n, many, first, e)
		}
		if surely, possibly, e := twin.Originals(g, l); len(surely) != 0 || len(possibly) != 5 || e != api.OK {
			t.Error(n, surely, possibly, e)
		}
		if s, left, e := twin.Look(g, l); s != (api.TwinSlip{}) || left != 0 || e != api.ErrNone {
			t.Error(n, s, left, e)
		}
		if surely, possibly, e := twin.Twins(g, l); !surely || !possibly || e != api.OK {
			t.Error(n, surely, possibly, e)
		}
	}
	apart := fans(fan(0, 0, 0, 0), fan(2500, 2500, 2500, 2500), fan(5000, 5000, 5000, 5000), fan(7500, 7500, 7500, 7500), fan(10000, 10000, 10000, 10000))
	all := slips(0, 0, 0, 1, 0, 2, 0, 3, 1, 0, 1, 1, 1, 2, 1, 3, 2, 0, 2, 1, 2, 2, 2, 3, 3, 0, 3, 1, 3, 2, 3, 3)
	if l, e := twin.Wrong(g, apart); !slices.Equal(l, all) || e != api.OK {
		t.Error(l, e)
	}
	if l, e := twin.Blame(g, apart, numbers(-1, 0, 1, 2, 3)); !slices.Equal(l, all) || e != api.OK {
		t.Error(l, e)
	}
}
