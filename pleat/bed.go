package pleat

import (
	"iter"
	"slices"

	"panache/api"
	"panache/span"
)

// bed is a leaf that lies in a mould.
type bed struct {
	api.PleatLeaf
	api.PleatMould
}

// ends chooses the truth of a face: where it begins, and where it ends.
type ends func(f api.PleatFace) (left, right int)

// widest and narrowest are the truths that decide what is possible, and what is sure: a fold that is on a face is also on each wider one.
func widest(f api.PleatFace) (left, right int) { return f.Left.Low, f.Right.High }

func narrowest(f api.PleatFace) (left, right int) { return f.Left.High, f.Right.Low }

// leafError returns the error of a leaf.
func leafError(l api.PleatLeaf) api.Errno {
	if !span.Within(1, api.MaxPleatLong, l.Long) {
		return api.ErrRange
	}
	if len(l.Faces) > api.MaxPleatFaces {
		return api.ErrLong
	}
	wrong := func(f api.PleatFace) bool {
		return !span.Valid(0, l.Long, f.Left, f.Right) || f.Left.High >= f.Right.Low
	}
	if slices.ContainsFunc(l.Faces, wrong) {
		return api.ErrArg
	}
	return api.OK
}

// mouldError returns the error of a mould.
func mouldError(m api.PleatMould) api.Errno {
	if !span.Within(0, api.MaxPleatHalf, m.Half) || !span.Within(0, api.MaxPleatLong, m.Room) || !span.Within(0, api.MaxPleatPlay, m.Play) {
		return api.ErrArg
	}
	if !span.Within(1, api.MaxPleatGrooves, len(m.Grooves)) || !span.Within(0, api.MaxPleatLong, m.Grooves...) {
		return api.ErrForm
	}
	for k := 1; k < len(m.Grooves); k++ {
		if m.Grooves[k]-m.Grooves[k-1] < max(1, m.Room+2*m.Half) {
			return api.ErrForm
		}
	}
	return api.OK
}

// ready returns a leaf in a mould, or the error of the leaf, or else that of the mould.
func ready(l api.PleatLeaf, m api.PleatMould) (bed, api.Errno) {
	if e := leafError(l); e != api.OK {
		return bed{}, e
	}
	if e := mouldError(m); e != api.OK {
		return bed{}, e
	}
	return bed{l, m}, api.OK
}

// free returns how far all folds of a shift keep from a face, at most MaxPleatLong; it is below 0 if one of them is on it.
func (b bed) free(shift, face int, truth ends) int {
	left, right := truth(b.Faces[face])
	free := api.MaxPleatLong
	for _, g := range b.Grooves {
		fold := g + shift
		free = min(free, max(left-fold-b.Half, fold-b.Half-right))
	}
	return free
}

// hit returns the faces that are on a fold with a shift, as bits.
func (b bed) hit(shift int, truth ends) int {
	faces := 0
	for face := range b.Faces {
		if b.free(shift, face, truth) < 0 {
			faces |= 1 << face
		}
	}
	return faces
}

// margin returns how far all folds of a shift surely keep from all faces, below 0 if one of them possibly is on one.
func (b bed) margin(shift int) int {
	margin := api.MaxPleatLong
	for face := range b.Faces {
		margin = min(margin, b.free(shift, face, widest))
	}
	return margin
}

// shifts yields the shifts for which a condition holds, ascending.
func (b bed) shifts(is func(shift int) bool) iter.Seq[int] {
	return func(yield func(int) bool) {
		for shift := range b.Play + 1 {
			if is(shift) && !yield(shift) {
				return
			}
		}
	}
}

// spares returns whether shifts spare all faces.
func (b bed) spares(truth ends) func(shift int) bool {
	return func(shift int) bool { return b.hit(shift, truth) == 0 }
}

// hits returns all sets of faces, as bits, that are possibly on folds together: with each the first shift that hits it.
func (b bed) hits() map[int]int {
	first := map[int]int{}
	for shift := range b.Play + 1 {
		faces := b.hit(shift, widest)
		if _, ok := first[faces]; !ok {
			first[faces] = shift
		}
	}
	return first
}

// stretches returns numbers that ascend as spans, as long as can be.
func stretches(numbers iter.Seq[int]) []api.Span {
	var l []api.Span
	for n := range numbers {
		if k := len(l) - 1; k >= 0 && l[k].High == n-1 {
			l[k].High = n
		} else {
			l = append(l, api.Span{Low: n, High: n})
		}
	}
	return l
}

// count returns how many numbers there are.
func count(numbers iter.Seq[int]) int {
	n := 0
	for range numbers {
		n++
	}
	return n
}
