package pleat_test

import (
	"iter"
	"math/rand"
	"slices"

	"panache/api"
	"panache/pleat"
)

func to(low, high int) api.Span { return api.Span{Low: low, High: high} }

func face(left, right api.Span) api.PleatFace { return api.PleatFace{Left: left, Right: right} }

// known is a face whose ends are known.
func known(left, right int) api.PleatFace { return face(to(left, left), to(right, right)) }

func leaf(long int, faces ...api.PleatFace) api.PleatLeaf {
	return api.PleatLeaf{Long: long, Faces: faces}
}

func mould(half, room, play int, grooves ...int) api.PleatMould {
	return api.PleatMould{Grooves: grooves, Half: half, Room: room, Play: play}
}

func ratio(num, den int) api.Ratio { return api.Ratio{Num: num, Den: den} }

// example is the leaf of the chapter's examples, with more faces.
func example(more ...api.PleatFace) api.PleatLeaf {
	return leaf(1000, slices.Concat([]api.PleatFace{
		face(to(100, 104), to(140, 141)), face(to(300, 300), to(330, 340)), face(to(520, 525), to(560, 560)),
	}, more)...)
}

// fiveGrooves is the mould of the chapter's examples, with any play.
func fiveGrooves(play int) api.PleatMould { return mould(5, 150, play, 0, 200, 400, 600, 800) }

func between(r *rand.Rand, low, high int) int { return low + r.Intn(high-low+1) }

// size says how large leaves and moulds are that are made at random.
type size struct{ long, faces, doubt, grooves, half, play int }

// anyLeaf makes a valid leaf at random.
func anyLeaf(r *rand.Rand, z size) api.PleatLeaf {
	l := leaf(between(r, 1, z.long))
	for range between(r, 0, z.faces) {
		left := between(r, 0, l.Long-1)
		f := face(to(left, min(left+r.Intn(z.doubt), l.Long-1)), api.Span{})
		f.Right.Low = between(r, f.Left.High+1, min(l.Long, f.Left.High+1+z.long/4))
		f.Right.High = min(f.Right.Low+r.Intn(z.doubt), l.Long)
		l.Faces = append(l.Faces, f)
	}
	return l
}

// anyMould makes a valid mould at random.
func anyMould(r *rand.Rand, z size) api.PleatMould {
	m := mould(between(r, 0, z.half), between(r, 0, z.long/3), between(r, 0, z.play), between(r, 0, z.long/3))
	for range between(r, 0, z.grooves-1) {
		g := m.Grooves[len(m.Grooves)-1] + max(1, m.Room+2*m.Half) + between(r, 0, z.long/4)
		if g <= min(api.MaxPleatLong, z.long+z.long/4) {
			m.Grooves = append(m.Grooves, g)
		}
	}
	return m
}

// anyBed makes a leaf and a mould for it.
func anyBed(r *rand.Rand, z size) (api.PleatLeaf, api.PleatMould) {
	l, m := anyLeaf(r, z), anyMould(r, z)
	if pleat.Check(l) != api.OK || pleat.Mould(m) != api.OK {
		panic("not valid")
	}
	return l, m
}

// small are leaves whose truths can all be looked at, large are those that can be.
var (
	small = size{long: 30, faces: 3, doubt: 3, grooves: 4, half: 3, play: 14}
	large = size{long: api.MaxPleatLong, faces: api.MaxPleatFaces, doubt: 40, grooves: api.MaxPleatGrooves, half: api.MaxPleatHalf, play: api.MaxPleatPlay}
)

// anySigns makes signs at random that can be seen of a leaf, with a shift and a truth.
func anySigns(r *rand.Rand, l api.PleatLeaf, m api.PleatMould) (signs []api.PleatSign, shift int) {
	shift = between(r, 0, m.Play)
	for _, f := range l.Faces {
		sign := api.PleatSpared
		if onFold(m, shift, between(r, f.Left.Low, f.Left.High), between(r, f.Right.Low, f.Right.High)) {
			sign = api.PleatHit
		}
		if r.Intn(2) == 0 {
			sign = api.PleatUnseen
		}
		signs = append(signs, sign)
	}
	return signs, shift
}

// onFold reports whether a face is on a fold of a mould, as the chapter says it.
func onFold(m api.PleatMould, shift, left, right int) bool {
	for _, g := range m.Grooves {
		fold := g + shift
		if fold-m.Half < right && fold+m.Half > left {
			return true
		}
	}
	return false
}

// ends is a face in a truth.
type ends struct{ left, right int }

// truths yields all truths of a leaf. It is one list that changes.
func truths(l api.PleatLeaf) iter.Seq[[]ends] {
	return func(yield func([]ends) bool) {
		u := make([]ends, len(l.Faces))
		var from func(k int) bool
		from = func(k int) bool {
			if k == len(u) {
				return yield(u)
			}
			for left := l.Faces[k].Left.Low; left <= l.Faces[k].Left.High; left++ {
				for right := l.Faces[k].Right.Low; right <= l.Faces[k].Right.High; right++ {
					u[k] = ends{left, right}
					if !from(k + 1) {
						return false
					}
				}
			}
			return true
		}
		from(0)
	}
}

// hits returns the faces that are on a fold with a shift, in a truth.
func hits(m api.PleatMould, shift int, truth []ends) []int {
	var l []int
	for k, f := range truth {
		if onFold(m, shift, f.left, f.right) {
			l = append(l, k)
		}
	}
	return l
}

// fits reports whether in a truth with a shift all is so that was seen.
func fits(m api.PleatMould, shift int, truth []ends, seen []api.PleatSign) bool {
	for k, f := range truth {
		on := onFold(m, shift, f.left, f.right)
		if on && seen[k] == api.PleatSpared || !on && seen[k] == api.PleatHit {
			return false
		}
	}
	return true
}

// laid returns all shifts with which in some truth all is so that was seen.
func laid(l api.PleatLeaf, m api.PleatMould, seen []api.PleatSign) []int {
	var shifts []int
	for shift := range m.Play + 1 {
		for u := range truths(l) {
			if fits(m, shift, u, seen) {
				shifts = append(shifts, shift)
				break
			}
		}
	}
	return shifts
}

// numbers returns all numbers of spans, or false if they do not ascend, with a gap between any two.
func numbers(spans []api.Span) ([]int, bool) {
	var l []int
	for k, s := range spans {
		if s.Low > s.High || k > 0 && s.Low <= spans[k-1].High+1 {
			return nil, false
		}
		for n := s.Low; n <= s.High; n++ {
			l = append(l, n)
		}
	}
	return l, true
}

// without returns a leaf without a face.
func without(l api.PleatLeaf, k int) api.PleatLeaf {
	l.Faces = slices.Delete(slices.Clone(l.Faces), k, k+1)
	return l
}

// only returns a leaf with these faces alone.
func only(l api.PleatLeaf, faces []int) api.PleatLeaf {
	left := leaf(l.Long)
	for _, k := range faces {
		left.Faces = append(left.Faces, l.Faces[k])
	}
	return left
}
