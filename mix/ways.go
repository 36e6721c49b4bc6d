package mix

import (
	"slices"

	"panache/api"
	"panache/sets"
)

// ways is some ways of a load, one at least, each with the carriers of all boxes.
type ways [][]int

// waysOf returns all ways of a load, the smallest one first, or the error of the load, or ErrState if there is none.
func waysOf(l api.MixLoad) (ways, api.Errno) {
	if e := loadError(l); e != api.OK {
		return nil, e
	}
	var all ways
	for way := range load(l).ways {
		all = append(all, slices.Clone(way))
	}
	if len(all) == 0 {
		return nil, api.ErrState
	}
	return all, api.OK
}

// boxes returns how many boxes there are.
func (w ways) boxes() int { return len(w[0]) }

// carriers returns the carriers, as bits, whose a box is in some way.
func (w ways) carriers(box int) int {
	set := 0
	for _, way := range w {
		set |= 1 << way[box]
	}
	return set
}

// count returns how many ways there are for which a condition holds.
func (w ways) count(is func(way []int) bool) int {
	many := 0
	for _, way := range w {
		if is(way) {
			many++
		}
	}
	return many
}

// giving returns the ways in which a box is a carrier's.
func (w ways) giving(box, carrier int) ways {
	var left ways
	for _, way := range w {
		if way[box] == carrier {
			left = append(left, way)
		}
	}
	return left
}

// worth returns how many ways are left after the question about a box, at most.
func (w ways) worth(box int) int {
	most := 0
	for carrier := range sets.Each(w.carriers(box)) {
		most = max(most, w.count(func(way []int) bool { return way[box] == carrier }))
	}
	return most
}

// ask returns the box that is worth most to ask about, and how many ways are left then at most. There are several ways.
func (w ways) ask() (box, left int) {
	left = len(w)
	for k := range w.boxes() {
		if n := w.worth(k); n < left {
			box, left = k, n
		}
	}
	return box, left
}
