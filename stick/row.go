package stick

import (
	"iter"
	"slices"

	"panache/api"
	"panache/span"
)

// row is sticks with the spots that their marks leave them. A stick may be left none, and then the row has no truth.
type row []api.StickMark

// spots has a spot for each stick of a row; one whose place is 0 is not known.
type spots [api.MaxStickRow]api.StickSpot

// ready returns a row that has a truth, or its error.
func ready(marks []api.StickMark) (row, api.Errno) {
	if len(marks) > api.MaxStickRow {
		return nil, api.ErrLong
	}
	wrong := func(m api.StickMark) bool {
		return !span.Within(1, 1<<api.MaxStickTeeth-1, m.Teeth) || !span.Valid(1, api.MaxStickPlaces, m.Place)
	}
	if slices.ContainsFunc(marks, wrong) {
		return nil, api.ErrArg
	}
	r := row(marks)
	if !r.hasTruth() {
		return nil, api.ErrState
	}
	return r, api.OK
}

// spotsOf yields all spots that its mark leaves a stick, in ascending order.
func (r row) spotsOf(stick int) iter.Seq[api.StickSpot] {
	return func(yield func(api.StickSpot) bool) {
		m := r[stick]
		for tooth := range api.MaxStickTeeth {
			if m.Teeth&(1<<tooth) == 0 {
				continue
			}
			for place := m.Place.Low; place <= m.Place.High; place++ {
				if !yield(api.StickSpot{Tooth: tooth, Place: place}) {
					return
				}
			}
		}
	}
}

// told returns the row when spots are known: that of a stick, and of those next to it.
func (r row) told(stick int, at ...api.StickSpot) row {
	t := slices.Clone(r)
	for k, s := range at {
		t[stick+k] = api.StickMark{Teeth: 1 << s.Tooth, Place: api.Span{Low: s.Place, High: s.Place}}
	}
	return t
}

// without returns the row without the sticks of a set.
func (r row) without(set int) row {
	var left row
	for k, m := range r {
		if set&(1<<k) == 0 {
			left = append(left, m)
		}
	}
	return left
}

// begun returns the row with those spots alone that its first sticks, many of them, can have if they are right in a tooth.
func (r row) begun(many, tooth int) row {
	b := slices.Clone(r)
	for k := range many {
		b[k].Teeth &= 1 << tooth
		if k > 0 {
			b[k].Place.Low = max(b[k].Place.Low, b[k-1].Place.Low+1)
		}
	}
	for k := many - 2; k >= 0; k-- {
		b[k].Place.High = min(b[k].Place.High, b[k+1].Place.High-1)
	}
	return b
}

// begins reports whether in some truth the first sticks, many of them, are right.
func (r row) begins(many int) bool {
	for tooth := range api.MaxStickTeeth {
		// Both ends of the spans of begun ascend. So two of its sticks that are in the wrong order can change their spots, and any truth of it becomes one in which they are right.
		if r.begun(many, tooth).hasTruth() {
			return true
		}
	}
	return false
}

// surely reports whether the row is right in all truths.
func (r row) surely() bool {
	for stick := 1; stick < len(r); stick++ {
		for before := range r.spotsOf(stick - 1) {
			for at := range r.spotsOf(stick) {
				if !follows(before, at) && r.told(stick-1, before, at).hasTruth() {
					return false
				}
			}
		}
	}
	return true
}

// rightIn reports whether the row is right in a truth.
func (r row) rightIn(truth spots) bool {
	for stick := 1; stick < len(r); stick++ {
		if !follows(truth[stick-1], truth[stick]) {
			return false
		}
	}
	return true
}

// follows reports whether a spot is in the tooth of another one, behind it.
func follows(before, at api.StickSpot) bool {
	return at.Tooth == before.Tooth && at.Place > before.Place
}

// truths yields all truths of the row.
func (r row) truths(yield func(spots) bool) {
	var truth spots
	var from func(left row, stick int) bool
	from = func(left row, stick int) bool {
		if stick == len(left) {
			return yield(truth)
		}
		for at := range left.spotsOf(stick) {
			truth[stick] = at
			// Only where there is a truth is it worth to go on: sticks at the end that have few spots would else be tried with all that those before them can have.
			if next := left.told(stick, at); next.hasTruth() && !from(next, stick+1) {
				return false
			}
		}
		return true
	}
	from(r, 0)
}
