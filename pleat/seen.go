package pleat

import (
	"slices"

	"panache/api"
)

// signsError returns the error of what was seen of the faces of a bed.
func (b bed) signsError(seen []api.PleatSign) api.Errno {
	wrong := func(s api.PleatSign) bool {
		return s != api.PleatUnseen && s != api.PleatHit && s != api.PleatSpared
	}
	if len(seen) != len(b.Faces) || slices.ContainsFunc(seen, wrong) {
		return api.ErrForm
	}
	return api.OK
}

// laid returns whether all that was seen can be so with a shift. Each face has a truth of its own: they can be so together if each of them can.
func (b bed) laid(seen []api.PleatSign) func(shift int) bool {
	return func(shift int) bool {
		for face, sign := range seen {
			if !b.can(shift, face, sign) {
				return false
			}
		}
		return true
	}
}

// can reports whether a sign can be seen of a face with a shift.
func (b bed) can(shift, face int, sign api.PleatSign) bool {
	switch sign {
	case api.PleatHit:
		return b.free(shift, face, widest) < 0
	case api.PleatSpared:
		return b.free(shift, face, narrowest) >= 0
	}
	return true
}

// after returns how many shifts are left at most when a face is looked at that was not seen.
func (b bed) after(face int, seen []api.PleatSign) int {
	most := 0
	next := slices.Clone(seen)
	for _, sign := range [...]api.PleatSign{api.PleatHit, api.PleatSpared} {
		next[face] = sign
		most = max(most, count(b.shifts(b.laid(next))))
	}
	return most
}
