package lattice

import (
	"slices"

	"panache/api"
	"panache/span"
)

// tally is how many cells have each colour.
type tally [api.MaxLatticeColours]int

// counts is a tally for each row, and behind them one for each column.
type counts [api.MaxLatticeHigh + api.MaxLatticeWide]tally

// lacking is what is seen of a picture, and how many more cells of each colour it should have. Where it has too many, that is below 0.
type lacking struct {
	view
	lacks counts
}

// lackingOf returns rows of what is seen with what they lack of counts.
func lackingOf(rows []string, c api.LatticeCounts) lacking {
	var want counts
	for y, numbers := range c.Rows {
		copy(want[y][:], numbers)
	}
	for x, numbers := range c.Columns {
		copy(want[api.MaxLatticeHigh+x][:], numbers)
	}
	v := read(rows)
	return lacking{v, v.addTo(want, -1)}
}

// lists returns the counts of a picture as lists.
func (c counts) lists(z size) api.LatticeCounts {
	var l api.LatticeCounts
	for y := range z.high {
		l.Rows = append(l.Rows, slices.Clone(c[y][:]))
	}
	for x := range z.wide {
		l.Columns = append(l.Columns, slices.Clone(c[api.MaxLatticeHigh+x][:]))
	}
	return l
}

// talliesOf returns the places of the tallies of a cell's row and column.
func talliesOf(cell int) (row, column int) {
	return rowOf(cell), api.MaxLatticeHigh + columnOf(cell)
}

// plus returns the counts with n more cells of a colour where a cell is.
func (c counts) plus(cell, colour, n int) counts {
	row, column := talliesOf(cell)
	c[row][colour] += n
	c[column][colour] += n
	return c
}

// addTo returns counts with n more cells for each one that is seen.
func (v view) addTo(c counts, n int) counts {
	for cell := range v.seen().each {
		c = c.plus(cell, v.colour(cell), n)
	}
	return c
}

// slip returns the cell whose colour is wrong, if it is one.
func (l lacking) slip() (api.LatticeSlip, api.Errno) {
	nothing := counts{}
	if l.lacks == nothing {
		return api.LatticeSlip{}, api.ErrTwice
	}
	for cell := range l.seen().each {
		without := l.lacks.plus(cell, l.colour(cell), 1)
		for colour := range api.MaxLatticeColours {
			// With its own colour again something is still lacking, so this is another one.
			if without.plus(cell, colour, -1) == nothing {
				return api.LatticeSlip{X: columnOf(cell), Y: rowOf(cell), Colour: colour}, api.OK
			}
		}
	}
	return api.LatticeSlip{}, api.ErrNone
}

// fill returns in how many ways the cells that are not seen can have what is lacking, and for each of them its colours, as bits.
func (l lacking) fill() (many int, colours []int, e api.Errno) {
	blind := l.all() &^ l.seen()
	if blind.many() > api.MaxLatticeBlind {
		return 0, nil, api.ErrFull
	}
	if l.fits(blind) {
		colours = make([]int, blind.many())
		many = ways(slices.Collect(blind.each), l.lacks, colours)
	}
	if many == 0 {
		return 0, nil, api.ErrState
	}
	return many, colours, api.OK
}

// fits reports whether each row and each column lacks as many cells as it has of a set, and no colour is too often in it.
func (l lacking) fits(blind cells) bool {
	var left [api.MaxLatticeHigh + api.MaxLatticeWide]int
	for cell := range blind.each {
		row, column := talliesOf(cell)
		left[row]++
		left[column]++
	}
	for k, t := range l.lacks {
		for _, n := range t {
			left[k] -= n
		}
		if left[k] != 0 || !span.Within(0, maxCells, t[:]...) {
			return false
		}
	}
	return true
}

// ways returns in how many ways cells can have what is lacking, which is for as many cells; and it adds to the colours of each cell those that it has in some of them.
func ways(blind []int, lacks counts, colours []int) int {
	if len(blind) == 0 {
		return 1
	}
	many := 0
	row, column := talliesOf(blind[0])
	for colour := range api.MaxLatticeColours {
		if lacks[row][colour] == 0 || lacks[column][colour] == 0 {
			continue
		}
		if n := ways(blind[1:], lacks.plus(blind[0], colour, -1), colours[1:]); n > 0 {
			colours[0] |= 1 << colour
			many += n
		}
	}
	return many
}
