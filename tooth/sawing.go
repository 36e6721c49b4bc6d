package tooth

import (
	"slices"

	"panache/api"
)

// sawing is a saw, and what it saws: one height of each edge in each column, and cracks that are in one place.
type sawing struct {
	api.ToothSaw
	bottom, top []int
	splits      []split
}

// split is a crack that is in all of some columns, from one height to another one.
type split struct {
	columns  api.Span
	from, to int
}

// worst returns a blade in which just those sticks are sound that surely are: all edges and cracks are as bad as in any truth, and each crack is in all of its columns.
func (c curved) worst(s api.ToothSaw) sawing {
	w := sawing{ToothSaw: s, bottom: heights(c.bottom, high), top: heights(c.top, low)}
	for _, k := range c.Cracks {
		w.splits = append(w.splits, split{k.Column, k.From.Low, k.To.High})
	}
	return w
}

// best returns the blade of the truth that spoils the fewest sticks, of those with the cracks in these columns. There is one that is best for all sticks: the least edges beneath, together, are those of a truth, and so are the greatest ones above.
func (c curved) best(s api.ToothSaw, columns []int) sawing {
	w := sawing{ToothSaw: s, bottom: heights(c.bottom, low), top: heights(c.top, high)}
	for k, x := range columns {
		w.splits = append(w.splits, split{api.Span{Low: x, High: x}, c.Cracks[k].From.High, c.Cracks[k].To.Low})
	}
	return w
}

// heights returns one height of each span.
func heights(spans []api.Span, which func(s api.Span) int) []int {
	var l []int
	for _, s := range spans {
		l = append(l, which(s))
	}
	return l
}

func low(s api.Span) int { return s.Low }

func high(s api.Span) int { return s.High }

// possibly reports whether a stick is sound in some truth.
func (c curved) possibly(s api.ToothSaw, p api.ToothPlace) bool {
	for l := range crackColumns(c.Cracks) {
		if c.best(s, l).sound(p) {
			return true
		}
	}
	return false
}

// room returns between which heights the sticks of a block that begins at x must lie.
func (w sawing) room(x int) (bottom, top int) {
	return slices.Max(w.bottom[x : x+w.Long]), slices.Min(w.top[x : x+w.Long])
}

// spoiler returns the number of the first crack that spoils a stick, or -1.
func (w sawing) spoiler(p api.ToothPlace) int {
	return slices.IndexFunc(w.splits, func(k split) bool {
		meets := k.columns.Low < p.X+w.Long && k.columns.High >= p.X
		return meets && k.to > p.Y && k.from < p.Y+w.Wide
	})
}

// sound reports whether a stick is sound.
func (w sawing) sound(p api.ToothPlace) bool {
	bottom, top := w.room(p.X)
	return p.Y >= bottom && p.Y+w.Wide <= top && w.spoiler(p) < 0
}

// apart reports whether two sticks can lie in one layout.
func (w sawing) apart(p, q api.ToothPlace) bool {
	if p.X == q.X {
		return max(p.Y-q.Y, q.Y-p.Y) >= w.Wide+w.Kerf
	}
	return max(p.X-q.X, q.X-p.X) >= w.Long+w.Across
}

// block returns the heights of the most sticks of a block: each lies as low as it can, so that no list is smaller, and none longer.
func (w sawing) block(x int) []int {
	var sticks []int
	y, top := w.room(x)
	for y+w.Wide <= top {
		if k := w.spoiler(api.ToothPlace{X: x, Y: y}); k >= 0 {
			y = w.splits[k].to // the crack spoils all sticks from y up to here
		} else {
			sticks = append(sticks, y)
			y += w.Wide + w.Kerf
		}
	}
	return sticks
}

// blocks returns the blocks, by the columns at which they begin, that have a stick.
func (w sawing) blocks() map[int][]int {
	blocks := map[int][]int{}
	for x := range len(w.bottom) - w.Long + 1 {
		if sticks := w.block(x); len(sticks) > 0 {
			blocks[x] = sticks
		}
	}
	return blocks
}

// ahead returns for each column the most sticks of blocks that begin at it or behind it, and 0 for as many columns behind the blade as a block takes.
func (w sawing) ahead(blocks map[int][]int) []int {
	columns := len(w.bottom)
	most := make([]int, columns+w.Long+w.Across)
	for x := columns - 1; x >= 0; x-- {
		most[x] = max(most[x+1], len(blocks[x])+most[x+w.Long+w.Across])
	}
	return most
}

// count returns how many sticks a layout has at most.
func (w sawing) count() int { return w.ahead(w.blocks())[0] }

// layout returns the smallest layout of those with the most sticks.
func (w sawing) layout() []api.ToothPlace {
	blocks := w.blocks()
	most := w.ahead(blocks)
	var places []api.ToothPlace
	for x := 0; x < len(w.bottom); {
		next := x + w.Long + w.Across
		if len(blocks[x]) == 0 || len(blocks[x])+most[next] < most[x] {
			x++
			continue
		}
		for _, y := range blocks[x] {
			places = append(places, api.ToothPlace{X: x, Y: y})
		}
		x = next
	}
	return places
}
