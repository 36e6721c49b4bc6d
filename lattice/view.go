package lattice

import (
	"math/bits"

	"panache/api"
	"panache/sets"
)

const (
	maxCells = api.MaxLatticeWide * api.MaxLatticeHigh // of a picture
	unseen   = '?'
)

// size is how many columns and rows a picture has. Its cells have numbers that ascend row by row, from the left.
type size struct{ wide, high int }

// cells is a set of cells, as bits.
type cells uint64

// view is what is seen of a picture. Beyond its size all is 0, so that two views are equal if the same is seen.
type view struct {
	size
	colours [maxCells]byte
}

func columnOf(cell int) int { return cell % api.MaxLatticeWide }

func rowOf(cell int) int { return cell / api.MaxLatticeWide }

func sizeOf(rows []string) size { return size{len(rows[0]), len(rows)} }

// where returns the cells for which a condition holds.
func (z size) where(is func(cell int) bool) cells {
	var set cells
	for y := range z.high {
		for x := range z.wide {
			if cell := api.MaxLatticeWide*y + x; is(cell) {
				set |= 1 << cell
			}
		}
	}
	return set
}

// all returns all cells.
func (z size) all() cells {
	return z.where(func(int) bool { return true })
}

// bitsOf returns for each row its columns with cells of a set, as bits.
func (z size) bitsOf(set cells) []int {
	var rows []int
	for y := range z.high {
		rows = append(rows, int(set>>(api.MaxLatticeWide*y)&(1<<api.MaxLatticeWide-1)))
	}
	return rows
}

// many returns how many cells there are.
func (c cells) many() int { return bits.OnesCount64(uint64(c)) }

// each yields the cells, ascending.
func (c cells) each(yield func(cell int) bool) { sets.Each(int(c))(yield) }

// read returns what is seen in rows.
func read(rows []string) view {
	v := view{size: sizeOf(rows)}
	for y, row := range rows {
		copy(v.colours[api.MaxLatticeWide*y:], row)
	}
	return v
}

// rows returns what is seen as rows.
func (v view) rows() []string {
	var rows []string
	for y := range v.high {
		left := api.MaxLatticeWide * y
		rows = append(rows, string(v.colours[left:left+v.wide]))
	}
	return rows
}

// colour returns the colour of a cell that is seen.
func (v view) colour(cell int) int { return int(v.colours[cell] - '0') }

// seen returns the cells that are seen.
func (v view) seen() cells {
	return v.where(func(cell int) bool { return v.colours[cell] != unseen })
}

// only returns what is seen if all other cells are not.
func (v view) only(open cells) view {
	for cell := range (v.all() &^ open).each {
		v.colours[cell] = unseen
	}
	return v
}

// with returns what is seen in this view, or else in another one.
func (v view) with(w view) view {
	for cell := range (w.seen() &^ v.seen()).each {
		v.colours[cell] = w.colours[cell]
	}
	return v
}

// differs returns the cells that are seen in both views, with two colours.
func (v view) differs(w view) cells {
	return v.seen() & w.seen() & v.where(func(cell int) bool { return v.colours[cell] != w.colours[cell] })
}
