package lattice_test

import (
	"iter"
	"math/rand"
	"slices"
	"strings"

	"panache/api"
)

// rows returns a text as rows, between which it has a slash.
func rows(text string) []string { return strings.Split(text, "/") }

// all returns texts as pictures or views.
func all(texts ...string) [][]string {
	var l [][]string
	for _, text := range texts {
		l = append(l, rows(text))
	}
	return l
}

func shift(x, y int) api.LatticeShift { return api.LatticeShift{X: x, Y: y} }

func shifts(l ...api.LatticeShift) []api.LatticeShift { return l }

func to(low, high int) api.Span { return api.Span{Low: low, High: high} }

func room(x, y api.Span) api.LatticeRoom { return api.LatticeRoom{X: x, Y: y} }

func counts(rows, columns [][]int) api.LatticeCounts {
	return api.LatticeCounts{Rows: rows, Columns: columns}
}

// countsOf returns the counts of a picture, by looking at each cell.
func countsOf(p []string) api.LatticeCounts {
	var c api.LatticeCounts
	for range p {
		c.Rows = append(c.Rows, make([]int, 4))
	}
	for range p[0] {
		c.Columns = append(c.Columns, make([]int, 4))
	}
	for y := range p {
		for x := range p[y] {
			c.Rows[y][p[y][x]-'0']++
			c.Columns[x][p[y][x]-'0']++
		}
	}
	return c
}

// sameCounts reports whether counts are equal.
func sameCounts(a, b api.LatticeCounts) bool {
	return slices.EqualFunc(a.Rows, b.Rows, slices.Equal[[]int]) && slices.EqualFunc(a.Columns, b.Columns, slices.Equal[[]int])
}

func sameGroups(a, b [][]int) bool { return slices.EqualFunc(a, b, slices.Equal[[]int]) }

// The lattice and the picture of the chapter's examples.
const (
	exampleBars    = "#./.."
	examplePicture = "012/330"
)

func between(r *rand.Rand, low, high int) int { return low + r.Intn(high-low+1) }

// anyRows makes rows at random of some bytes.
func anyRows(r *rand.Rand, wide, high int, bytes string) []string {
	var l []string
	for range high {
		row := make([]byte, wide)
		for x := range row {
			row[x] = bytes[r.Intn(len(bytes))]
		}
		l = append(l, string(row))
	}
	return l
}

// anyPicture makes a picture at random, of few colours or of all.
func anyPicture(r *rand.Rand, wide, high int) []string {
	return anyRows(r, wide, high, "0123"[:between(r, 1, 4)])
}

// anyBars makes a lattice at random.
func anyBars(r *rand.Rand) []string {
	return anyRows(r, between(r, 1, 4), between(r, 1, 4), []string{"#.", "#...", "###."}[r.Intn(3)])
}

// anySpan makes a span at random.
func anySpan(r *rand.Rand, low, high int) api.Span {
	a := between(r, low, high)
	return to(a, between(r, a, high))
}

func anyRoom(r *rand.Rand, bars []string) api.LatticeRoom {
	return room(anySpan(r, 0, len(bars[0])-1), anySpan(r, 0, len(bars)-1))
}

func anyShift(r *rand.Rand, bars []string) api.LatticeShift {
	return shift(r.Intn(len(bars[0])), r.Intn(len(bars)))
}

// shiftsOf returns all shifts of a lattice, ascending.
func shiftsOf(bars []string) []api.LatticeShift {
	var l []api.LatticeShift
	for y := range bars {
		for x := range bars[0] {
			l = append(l, shift(x, y))
		}
	}
	return l
}

// isOpen reports whether a cell is open: the lattice is laid from far left of and above the picture on, again and again.
func isOpen(bars []string, s api.LatticeShift, x, y int) bool {
	left, top := s.X-len(bars[0]), s.Y-len(bars)
	for left+len(bars[0]) <= x {
		left += len(bars[0])
	}
	for top+len(bars) <= y {
		top += len(bars)
	}
	return bars[y-top][x-left] == '.'
}

// through returns what is seen of a picture.
func through(p, bars []string, s api.LatticeShift) []string {
	var l []string
	for y := range p {
		row := ""
		for x := range p[y] {
			if isOpen(bars, s, x, y) {
				row += p[y][x : x+1]
			} else {
				row += "?"
			}
		}
		l = append(l, row)
	}
	return l
}

// choices yields all lists of n numbers from 0 to many - 1. It is one list that changes.
func choices(n, many int) iter.Seq[[]int] {
	return func(yield func([]int) bool) {
		l := make([]int, n)
		for {
			if !yield(l) {
				return
			}
			k := n - 1
			for k >= 0 && l[k] == many-1 {
				l[k] = 0
				k--
			}
			if k < 0 {
				return
			}
			l[k]++
		}
	}
}

// with returns rows with another byte in a cell.
func with(p []string, x, y int, b byte) []string {
	l := slices.Clone(p)
	l[y] = l[y][:x] + string(b) + l[y][x+1:]
	return l
}

// hidden returns rows of which some cells are not seen, and these cells in their order. They are close together, where they have many ways.
func hidden(r *rand.Rand, p []string, many int) (seen []string, cells [][2]int) {
	seen = p
	left, top := r.Intn(len(p[0])), r.Intn(len(p))
	for range many {
		seen = with(seen, between(r, left, min(left+3, len(p[0])-1)), between(r, top, min(top+2, len(p)-1)), '?')
	}
	for y := range seen {
		for x := range seen[y] {
			if seen[y][x] == '?' {
				cells = append(cells, [2]int{x, y})
			}
		}
	}
	return seen, cells
}
