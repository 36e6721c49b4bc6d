package lattice

import (
	"panache/api"
	"panache/sets"
	"panache/span"
)

// lattice is its rows, with bars and gaps.
type lattice []string

// shifts yields all shifts of the lattice, ascending.
func (l lattice) shifts(yield func(api.LatticeShift) bool) {
	z := sizeOf(l)
	for y := range z.high {
		for x := range z.wide {
			if !yield(api.LatticeShift{X: x, Y: y}) {
				return
			}
		}
	}
}

// open returns the cells of a picture that are open with a shift.
func (l lattice) open(z size, s api.LatticeShift) cells {
	own := sizeOf(l)
	return z.where(func(cell int) bool {
		// A size more keeps both from going below 0.
		x, y := columnOf(cell)-s.X+own.wide, rowOf(cell)-s.Y+own.high
		return l[y%own.high][x%own.wide] == '.'
	})
}

// opens returns the cells of a picture that are open with all shifts of a room, and with one of them at least.
func (l lattice) opens(z size, r api.LatticeRoom) (always, once cells) {
	always = z.all()
	for s := range l.shifts {
		if span.Within(r.X.Low, r.X.High, s.X) && span.Within(r.Y.Low, r.Y.High, s.Y) {
			open := l.open(z, s)
			always &= open
			once |= open
		}
	}
	return always, once
}

// fewest returns the fewest shifts, the smallest list of several, with which all cells of a picture are open, or none if there are none.
func (l lattice) fewest(z size) []api.LatticeShift {
	var shifts []api.LatticeShift
	var open []cells
	for s := range l.shifts {
		shifts = append(shifts, s)
		open = append(open, l.open(z, s))
	}
	var fewest []api.LatticeShift
	for _, k := range cover(open, z.all()) {
		fewest = append(fewest, shifts[k])
	}
	return fewest
}

// cover returns the numbers of the fewest sets that have all cells together: of several such lists the smallest one, nil if there is none.
func cover(l []cells, all cells) []int {
	fewest, _ := sets.Fewest(len(l), func(set int) bool { return union(l, set) == all })
	return fewest
}

// union returns the cells that are in one of some sets of a list; which ones is given as bits.
func union(l []cells, which int) cells {
	var u cells
	for k, c := range l {
		if which&(1<<k) != 0 {
			u |= c
		}
	}
	return u
}

// showing returns the shifts with which just what is seen is open.
func (l lattice) showing(v view) []api.LatticeShift {
	var shifts []api.LatticeShift
	for s := range l.shifts {
		if l.open(v.size, s) == v.seen() {
			shifts = append(shifts, s)
		}
	}
	return shifts
}

// alike returns the numbers of pictures in groups of those of which the same is seen with a shift.
func (l lattice) alike(pictures [][]string, s api.LatticeShift) [][]int {
	var groups [][]int
	group := map[view]int{}
	for k, p := range pictures {
		v := read(p)
		v = v.only(l.open(v.size, s))
		g, ok := group[v]
		if !ok {
			g = len(groups)
			group[v] = g
			groups = append(groups, nil)
		}
		groups[g] = append(groups[g], k)
	}
	return groups
}
