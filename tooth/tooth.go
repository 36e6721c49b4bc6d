// Package tooth is layer 1: what surely can be sawn from a blade whose edges and cracks were not seen everywhere (chapter 1).
package tooth

import (
	"slices"
	"sort"

	"panache/api"
	"panache/span"
)

// Check returns the error of a blade.
func Check(b api.ToothBlade) api.Errno {
	_, e := curve(b)
	return e
}

// Curve returns what a blade's edges can be.
func Curve(b api.ToothBlade) (bottom, top []api.Span, e api.Errno) {
	c, e := curve(b)
	return c.bottom, c.top, e
}

// Fits reports whether a stick is surely, and possibly, sound.
func Fits(b api.ToothBlade, s api.ToothSaw, p api.ToothPlace) (surely, possibly bool, e api.Errno) {
	c, e := ready(b, s)
	if e != api.OK {
		return false, false, e
	}
	if !c.holds(s, p) {
		return false, false, api.ErrArg
	}
	return c.worst(s).sound(p), c.possibly(s, p), api.OK
}

// Block returns the most surely sound sticks of a block that begins at a column.
func Block(b api.ToothBlade, s api.ToothSaw, x int) ([]int, api.Errno) {
	c, e := ready(b, s)
	if e != api.OK {
		return nil, e
	}
	if !c.holds(s, api.ToothPlace{X: x}) {
		return nil, api.ErrArg
	}
	return c.worst(s).block(x), api.OK
}

// Most returns the layout with the most surely sound sticks.
func Most(b api.ToothBlade, s api.ToothSaw) ([]api.ToothPlace, api.Errno) {
	c, e := ready(b, s)
	if e != api.OK {
		return nil, e
	}
	return c.worst(s).layout(), api.OK
}

// Fault returns the first place of a layout that is wrong.
func Fault(b api.ToothBlade, s api.ToothSaw, layout []api.ToothPlace) (at int, e api.Errno) {
	c, e := ready(b, s)
	if e != api.OK {
		return 0, e
	}
	if len(layout) > api.MaxToothPlaces {
		return 0, api.ErrLong
	}
	if !c.holds(s, layout...) {
		return 0, api.ErrArg
	}
	w := c.worst(s)
	for k, p := range layout {
		touches := func(q api.ToothPlace) bool { return !w.apart(p, q) }
		if !w.sound(p) || slices.ContainsFunc(layout[:k], touches) {
			return k, api.OK
		}
	}
	return 0, api.ErrNone
}

// Bound returns a number of sticks that no layout exceeds, and its class.
func Bound(b api.ToothBlade, s api.ToothSaw) (sticks, class int, e api.Errno) {
	c, e := ready(b, s)
	if e != api.OK {
		return 0, 0, e
	}
	through := c.worst(api.ToothSaw{Long: 1, Wide: s.Wide, Kerf: s.Kerf}).blocks()
	sums := make([]int, s.Long)
	for x := range len(c.bottom) {
		sums[x%s.Long] += len(through[x])
	}
	sticks = slices.Min(sums)
	return sticks, slices.Index(sums, sticks), api.OK
}

// Possible returns the most sticks in some truth, and the columns of its cracks.
func Possible(b api.ToothBlade, s api.ToothSaw) (sticks int, columns []int, e api.Errno) {
	c, e := ready(b, s)
	if e != api.OK {
		return 0, nil, e
	}
	sticks = -1
	for l := range crackColumns(c.Cracks) {
		if n := c.best(s, l).count(); n > sticks {
			sticks, columns = n, slices.Clone(l)
		}
	}
	return sticks, columns, api.OK
}

// Costs returns for each crack how many sticks more there would be without it.
func Costs(b api.ToothBlade, s api.ToothSaw) ([]int, api.Errno) {
	c, e := ready(b, s)
	if e != api.OK {
		return nil, e
	}
	now := c.worst(s).count()
	var costs []int
	for k := range c.Cracks {
		costs = append(costs, c.without(k).worst(s).count()-now)
	}
	return costs, api.OK
}

// Look returns which column it is worth to sound, and how many sticks that can gain.
func Look(b api.ToothBlade, s api.ToothSaw) (column, gain int, e api.Errno) {
	c, e := ready(b, s)
	if e != api.OK {
		return 0, 0, e
	}
	now := c.worst(s).count()
	for x := range len(c.bottom) {
		if n := c.sounded(x).worst(s).count() - now; n > gain {
			column, gain = x, n
		}
	}
	if gain == 0 {
		return 0, 0, api.ErrNone
	}
	return column, gain, api.OK
}

// Widest returns the greatest width with which there are so many sticks.
func Widest(b api.ToothBlade, s api.ToothSaw, sticks int) (int, api.Errno) {
	c, e := ready(b, s)
	if e != api.OK {
		return 0, e
	}
	if !span.Within(1, api.MaxToothPlaces, sticks) {
		return 0, api.ErrArg
	}
	// Narrower sticks are never fewer, so the widths that are too great are all above the others.
	wide := sort.Search(api.MaxToothHigh, func(k int) bool {
		s.Wide = k + 1
		return c.worst(s).count() < sticks
	})
	if wide == 0 {
		return 0, api.ErrNone
	}
	return wide, api.OK
}
