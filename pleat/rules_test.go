package pleat_test

import (
	"math"
	"math/rand"
	"reflect"
	"slices"
	"testing"

	"panache/api"
	"panache/pleat"
)

// asked is all that can be asked about pleats.
type asked struct {
	leaf        api.PleatLeaf
	mould       api.PleatMould
	shift       int
	moulds      []api.PleatMould
	seen        []api.PleatSign
	least, most api.Ratio
}

// answers returns the results of all functions.
func (a asked) answers() [][]any {
	all := func(l ...any) []any { return l }
	return [][]any{
		all(pleat.Check(a.leaf)), all(pleat.Mould(a.mould)), all(pleat.Hit(a.leaf, a.mould, a.shift)), all(pleat.Shifts(a.leaf, a.mould)),
		all(pleat.Against(a.leaf, a.mould)), all(pleat.Best(a.leaf, a.mould)), all(pleat.Margin(a.leaf, a.mould)), all(pleat.Choose(a.leaf, a.moulds)),
		all(pleat.Laid(a.leaf, a.mould, a.seen)), all(pleat.Look(a.leaf, a.mould, a.seen)), all(pleat.Wet(a.leaf, a.least, a.most)),
	}
}

// anyAsked makes valid questions at random. Its lists have spare room.
func anyAsked(r *rand.Rand) asked {
	z := []size{small, large}[r.Intn(2)]
	a := asked{least: ratio(between(r, 90, 100), 100), most: ratio(between(r, 100, 110), 100)}
	a.leaf, a.mould = anyBed(r, z)
	a.seen, a.shift = anySigns(r, a.leaf, a.mould)
	for range between(r, 0, 3) {
		a.moulds = append(a.moulds, anyMould(r, z))
	}
	a.leaf.Faces = slices.Grow(a.leaf.Faces, 3)
	a.mould.Grooves = slices.Grow(a.mould.Grooves, 3)
	a.moulds, a.seen = slices.Grow(a.moulds, 3), slices.Grow(a.seen, 3)
	return a
}

// memory returns all memory of the arguments, with the spare room, as copies.
func (a asked) memory() []any {
	l := []any{slices.Clone(a.leaf.Faces[:cap(a.leaf.Faces)]), slices.Clone(a.mould.Grooves[:cap(a.mould.Grooves)]), slices.Clone(a.seen[:cap(a.seen)])}
	for _, m := range a.moulds[:cap(a.moulds)] {
		l = append(l, m.Half, m.Room, m.Play, slices.Clone(m.Grooves[:cap(m.Grooves)]))
	}
	return l
}

// spoil writes into all memory of results.
func spoil(results [][]any) {
	for _, l := range results {
		for _, x := range l {
			switch v := x.(type) {
			case []int:
				fill(v, -9)
			case []api.Span:
				fill(v, to(-9, -9))
			case api.PleatLeaf:
				fill(v.Faces, known(-9, -9))
			}
		}
	}
}

func fill[T any](l []T, x T) {
	l = l[:cap(l)]
	for k := range l {
		l[k] = x
	}
}

// P2: equal arguments have equal results, no argument changes, and no memory is shared, also not between two results of one call.
func TestEqualAndUnchanged(t *testing.T) {
	r := rand.New(rand.NewSource(10))
	for i := range 300 {
		a := anyAsked(r)
		before := a.memory()
		first := a.answers()
		again := a.answers()
		if !reflect.DeepEqual(first, again) || !reflect.DeepEqual(a.memory(), before) {
			t.Fatal(i, a, first, again)
		}
		spoil(first)
		if !reflect.DeepEqual(a.memory(), before) || !reflect.DeepEqual(a.answers(), again) {
			t.Fatal(i, "shared memory", a)
		}
		surely, possibly, _ := pleat.Shifts(a.leaf, a.mould)
		then := slices.Clone(possibly)
		fill(surely, to(-9, -9))
		on, may, _ := pleat.Hit(a.leaf, a.mould, a.shift)
		same := slices.Clone(may)
		fill(on, -9)
		if !slices.Equal(possibly, then) || !slices.Equal(may, same) {
			t.Fatal(i, "two results share memory", a)
		}
	}
}

// P2 and R3: a nil list and an empty one are the same.
func TestNilAndEmpty(t *testing.T) {
	none := asked{leaf: leaf(9), mould: mould(1, 3, 5, 0, 7), least: ratio(1, 1), most: ratio(1, 1)}
	empty := none
	empty.leaf.Faces, empty.moulds, empty.seen = []api.PleatFace{}, []api.PleatMould{}, []api.PleatSign{}
	if a, b := none.answers(), empty.answers(); !reflect.DeepEqual(a, b) {
		t.Error(a, b)
	}
	none.mould.Grooves, empty.mould.Grooves = nil, []int{}
	if a, b := none.answers(), empty.answers(); !reflect.DeepEqual(a, b) {
		t.Error(a, b)
	}
}

// wild is a number that is often at a limit, or beyond it.
func wild(r *rand.Rand) int {
	l := []int{math.MinInt, math.MinInt + 1, -5001, -1, 0, 0, 1, 1, 2, 3, 7, 8, 9, 40, 41, 50, 51, 500, 501, 1000, 1001, 2000, 2001, 5000, 5001, math.MaxInt - 1, math.MaxInt}
	return l[r.Intn(len(l))]
}

// anyWild makes questions of which something is mostly not valid.
func anyWild(r *rand.Rand) asked {
	a := anyAsked(r)
	for range between(r, 1, 3) {
		switch r.Intn(10) {
		case 0:
			a.leaf.Long = wild(r)
		case 1:
			a.leaf.Faces = append(a.leaf.Faces, face(to(wild(r), wild(r)), to(wild(r), wild(r))))
		case 2:
			a.leaf.Faces = slices.Repeat(append(a.leaf.Faces, known(0, 1)), between(r, 1, 5))
		case 3:
			a.mould = mould(wild(r), wild(r), wild(r), a.mould.Grooves...)
		case 4:
			a.mould.Grooves = append(a.mould.Grooves, wild(r))
		case 5:
			a.shift = wild(r)
		case 6:
			a.moulds = slices.Repeat(append(a.moulds, a.mould), between(r, 1, 4))
		case 7:
			a.seen = append(a.seen, api.PleatSign(wild(r)))
		case 8:
			a.least = ratio(wild(r), wild(r))
		case 9:
			a.most = ratio(wild(r), wild(r))
		}
	}
	return a
}

// P1: nothing panics, and with an error all else is zero.
func TestWildArguments(t *testing.T) {
	r := rand.New(rand.NewSource(11))
	errors := map[api.Errno]int{}
	for i := range 3000 {
		a := anyWild(r)
		for k, l := range a.answers() {
			e := l[len(l)-1].(api.Errno)
			errors[e]++
			for _, x := range l[:len(l)-1] {
				if v := reflect.ValueOf(x); e != api.OK && !v.IsZero() && !(v.Kind() == reflect.Slice && v.Len() == 0) {
					t.Fatal(i, k, a, l)
				}
			}
		}
	}
	for _, e := range []api.Errno{api.OK, api.ErrArg, api.ErrRange, api.ErrForm, api.ErrLong, api.ErrNone, api.ErrFull, api.ErrState} {
		if errors[e] == 0 {
			t.Error("never", e)
		}
	}
}

// P1: the greatest leaf and mould have an end, too.
func TestGreatest(t *testing.T) {
	l, m := leaf(5000), mould(5, 110, 500)
	for k := range api.MaxPleatGrooves {
		m.Grooves = append(m.Grooves, 120*k)
	}
	for k := range api.MaxPleatFaces {
		l.Faces = append(l.Faces, face(to(1000+15*k, 1003+15*k), to(1012+15*k, 1015+15*k)))
	}
	// Each face possibly forbids 24 shifts of 120, with all that differ from them by 120, and begins 15 behind the one before: all of them are needed.
	all := []int{0, 1, 2, 3, 4, 5, 6, 7}
	if got, e := pleat.Against(l, m); !slices.Equal(got, all) || e != api.OK {
		t.Error(got, e)
	}
	if _, possibly, e := pleat.Hit(l, m, 500); !slices.Equal(possibly, []int{6}) || e != api.OK {
		t.Error(possibly, e)
	}
	// The face 5 surely forbids the shifts 0 to 11, and 18 each from 114, 234, 354 and 474 on.
	if face, left, e := pleat.Look(l, m, make([]api.PleatSign, 8)); face != 5 || left != 501-84 || e != api.OK {
		t.Error(face, left, e)
	}
	// Without the face 7 the shifts 30 to 35 are left, 150 to 155, 270 to 275, and 390 to 395.
	if n, shifts, e := pleat.Choose(only(l, all[:7]), slices.Repeat([]api.PleatMould{m}, 8)); n != 0 || shifts != 24 || e != api.OK {
		t.Error(n, shifts, e)
	}
}
