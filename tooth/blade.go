package tooth

import (
	"iter"
	"slices"

	"panache/api"
	"panache/span"
)

// curved is what is known of a blade, with the heights at which its edges are in some truth.
type curved struct {
	api.ToothBlade
	bottom, top []api.Span
}

// ready returns a blade with its edges, or the error of the blade, or else that of the saw.
func ready(b api.ToothBlade, s api.ToothSaw) (curved, api.Errno) {
	c, e := curve(b)
	if e != api.OK {
		return curved{}, e
	}
	if !span.Within(1, api.MaxToothColumns, s.Long) || !span.Within(1, api.MaxToothHigh, s.Wide) || !span.Within(0, api.MaxToothKerf, s.Kerf, s.Across) {
		return curved{}, api.ErrRange
	}
	return c, api.OK
}

// curve returns a blade with its edges, or its error.
func curve(b api.ToothBlade) (curved, api.Errno) {
	columns := len(b.Bottom)
	if columns != len(b.Top) || !span.Within(1, api.MaxToothColumns, columns) {
		return curved{}, api.ErrForm
	}
	if len(b.Cracks) > api.MaxToothCracks {
		return curved{}, api.ErrLong
	}
	wrong := func(k api.ToothCrack) bool { return !crackValid(k, columns) }
	if !edgesValid(b) || slices.ContainsFunc(b.Cracks, wrong) {
		return curved{}, api.ErrArg
	}
	bottom, hasBottom := bent(b.Bottom, b.Bend)
	top, hasTop := bent(b.Top, b.Bend)
	if !hasBottom || !hasTop {
		return curved{}, api.ErrState
	}
	return curved{b, bottom, top}, api.OK
}

// edgesValid reports whether edges, of which there are as many beneath as above, and the bend of a blade are valid.
func edgesValid(b api.ToothBlade) bool {
	if !span.Within(0, api.MaxToothBend, b.Bend) || !span.Valid(0, api.MaxToothHigh, b.Bottom...) || !span.Valid(0, api.MaxToothHigh, b.Top...) {
		return false
	}
	for x := range len(b.Bottom) {
		if b.Bottom[x].High > b.Top[x].Low {
			return false
		}
	}
	return true
}

// crackValid reports whether a crack of a blade of so many columns is valid.
func crackValid(k api.ToothCrack, columns int) bool {
	return span.Valid(0, columns-1, k.Column) && k.Column.High-k.Column.Low < api.MaxToothDoubt &&
		span.Valid(0, api.MaxToothHigh, k.From, k.To) && k.From.High <= k.To.Low
}

// bent returns the heights of an edge that some truth has, as neighbours differ by at most bend; or false if there is no truth.
func bent(edge []api.Span, bend int) ([]api.Span, bool) {
	l := slices.Clone(edge)
	near := func(x, neighbour int) bool {
		l[x].Low = max(l[x].Low, l[neighbour].Low-bend)
		l[x].High = min(l[x].High, l[neighbour].High+bend)
		return l[x].Low <= l[x].High
	}
	for x := 1; x < len(l); x++ {
		if !near(x, x-1) {
			return nil, false
		}
	}
	// From here on no span becomes empty: each height that is left has a neighbour before it.
	for x := len(l) - 2; x >= 0; x-- {
		near(x, x+1)
	}
	return l, true
}

// holds reports whether all places are some at which Fits, Block and Fault take sticks.
func (c curved) holds(s api.ToothSaw, places ...api.ToothPlace) bool {
	for _, p := range places {
		if !span.Within(0, len(c.bottom)-s.Long, p.X) || !span.Within(0, api.MaxToothHigh, p.Y) {
			return false
		}
	}
	return true
}

// without returns the blade without one of its cracks.
func (c curved) without(crack int) curved {
	c.Cracks = slices.Delete(slices.Clone(c.Cracks), crack, crack+1)
	return c
}

// sounded returns the blade with the best edges that can be found in a column.
func (c curved) sounded(x int) curved {
	c.bottom = found(c.bottom, x, c.bottom[x].Low, c.Bend)
	c.top = found(c.top, x, c.top[x].High, c.Bend)
	return c
}

// found returns what an edge can be when its height in a column, one that some truth has, was found.
func found(edge []api.Span, x, height, bend int) []api.Span {
	l := slices.Clone(edge)
	l[x] = api.Span{Low: height, High: height}
	l, _ = bent(l, bend)
	return l
}

// crackColumns yields all lists of columns in which the cracks can be, in ascending order. It is one list that changes: who keeps it copies it.
func crackColumns(cracks []api.ToothCrack) iter.Seq[[]int] {
	return func(yield func([]int) bool) {
		l := make([]int, len(cracks))
		var from func(k int) bool
		from = func(k int) bool {
			if k == len(cracks) {
				return yield(l)
			}
			for x := cracks[k].Column.Low; x <= cracks[k].Column.High; x++ {
				l[k] = x
				if !from(k + 1) {
					return false
				}
			}
			return true
		}
		from(0)
	}
}
