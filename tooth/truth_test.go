package tooth_test

import (
	"math/rand"
	"slices"
	"testing"

	"panache/api"
	"panache/tooth"
)

// seen is what all truths of a blade say, looked at one after another as the chapter says them.
type seen struct {
	surely, possibly []api.ToothPlace
	most             int
	columns          []int
	bottom, top      []api.Span
}

// widen makes spans as wide as it takes to hold a list.
func widen(spans []api.Span, l []int) []api.Span {
	if spans == nil {
		for _, n := range l {
			spans = append(spans, to(n, n))
		}
	}
	for x, n := range l {
		spans[x] = to(min(spans[x].Low, n), max(spans[x].High, n))
	}
	return spans
}

func lookAtAll(b api.ToothBlade, s api.ToothSaw, places []api.ToothPlace) seen {
	w := seen{most: -1}
	always, ever := make([]bool, len(places)), make([]bool, len(places))
	for k := range always {
		always[k] = true
	}
	counts := map[string]int{} // truths that leave the same places need one search
	for u := range truths(b) {
		w.bottom, w.top = widen(w.bottom, u.bottom), widen(w.top, u.top)
		key := make([]byte, len(places))
		var sound []api.ToothPlace
		for k, p := range places {
			if u.sound(s, p) {
				key[k], ever[k] = 1, true
				sound = append(sound, p)
			} else {
				always[k] = false
			}
		}
		n, known := counts[string(key)]
		if !known {
			n = len(smallestLayout(s, sound))
			counts[string(key)] = n
		}
		if n > w.most || n == w.most && slices.Compare(u.column, w.columns) < 0 {
			w.most, w.columns = n, u.column
		}
	}
	for k, p := range places {
		if always[k] {
			w.surely = append(w.surely, p)
		}
		if ever[k] {
			w.possibly = append(w.possibly, p)
		}
	}
	return w
}

// smallBlade is a blade with so few truths that all can be looked at.
func smallBlade(r *rand.Rand) (api.ToothBlade, api.ToothSaw) {
	for {
		z := size{columns: 4, high: between(r, 6, 12), doubt: between(r, 0, 2), cracks: 2, where: 3, kerf: 2}
		b, s := anyBlade(r, z)
		if many(b) <= 5000 {
			return b, s
		}
	}
}

// P1.2 to P1.8, P1.12, P1.13 and P1.14 against all truths, and all layouts, of small blades.
func TestAllTruths(t *testing.T) {
	r := rand.New(rand.NewSource(1))
	for i := range 1500 {
		b, s := smallBlade(r)
		places := allPlaces(b, s, 13)
		w := lookAtAll(b, s, places)
		want := smallestLayout(s, w.surely)
		bottom, top, _ := tooth.Curve(b)
		if !slices.Equal(bottom, w.bottom) || !slices.Equal(top, w.top) {
			t.Fatal(i, b, bottom, top)
		}
		for _, p := range places {
			surely, possibly, e := tooth.Fits(b, s, p)
			if surely != slices.Contains(w.surely, p) || possibly != slices.Contains(w.possibly, p) || e != api.OK {
				t.Fatal(i, b, s, p, surely, possibly, e)
			}
		}
		for x := 0; x+s.Long <= len(b.Bottom); x++ {
			var ys []int
			for _, p := range smallestLayout(s, slices.DeleteFunc(slices.Clone(w.surely), func(p api.ToothPlace) bool { return p.X != x })) {
				ys = append(ys, p.Y)
			}
			if l, e := tooth.Block(b, s, x); !slices.Equal(l, ys) || e != api.OK {
				t.Fatal(i, b, s, x, l, ys, e)
			}
		}
		most, e := tooth.Most(b, s)
		if !slices.Equal(most, want) || e != api.OK {
			t.Fatal(i, b, s, most, want, e)
		}
		bound, class, _ := tooth.Bound(b, s)
		sticks, columns, _ := tooth.Possible(b, s)
		if sticks != w.most || !slices.Equal(columns, w.columns) {
			t.Fatal(i, b, s, sticks, columns, w)
		}
		if len(most) > sticks || len(most) > bound || class < 0 || class >= s.Long {
			t.Fatal(i, b, s, len(most), sticks, bound, class)
		}
	}
}

// P1.6: the fault of any layout, as its definition says it.
func TestFaultOfAny(t *testing.T) {
	r := rand.New(rand.NewSource(2))
	for i := range 3000 {
		b, s := anyBlade(r, size{columns: 6, high: 30, doubt: 2, cracks: 2, where: 3, kerf: 2})
		layout, _ := tooth.Most(b, s)
		r.Shuffle(len(layout), func(k, l int) { layout[k], layout[l] = layout[l], layout[k] })
		if n := len(layout); n > 0 && i%3 > 0 {
			k := r.Intn(n)
			layout[k].X = between(r, 0, len(b.Bottom)-s.Long)
			layout[k].Y = max(0, layout[k].Y+between(r, -2, 2))
		}
		want, none := 0, api.ErrNone
		for k, p := range layout {
			surely, _, _ := tooth.Fits(b, s, p)
			if !surely || slices.ContainsFunc(layout[:k], func(q api.ToothPlace) bool { return !apart(s, p, q) }) {
				want, none = k, api.OK
				break
			}
		}
		if k, e := tooth.Fault(b, s, layout); k != want || e != none {
			t.Fatal(i, b, s, layout, k, e)
		}
	}
}

// P1.7: the sum of each class, by blocks of sticks that are one column long.
func TestBoundOfAny(t *testing.T) {
	r := rand.New(rand.NewSource(3))
	for i := range 2000 {
		b, s := anyBlade(r, size{columns: 9, high: 40, doubt: 3, cracks: 4, where: 4, kerf: 3})
		least, first := -1, 0
		for class := range s.Long {
			sum := 0
			for x := class; x < len(b.Bottom); x += s.Long {
				l, _ := tooth.Block(b, saw(1, s.Wide, s.Kerf, s.Across), x)
				sum += len(l)
			}
			if least < 0 || sum < least {
				least, first = sum, class
			}
		}
		sticks, class, e := tooth.Bound(b, s)
		l, _ := tooth.Most(b, s)
		if sticks != least || class != first || e != api.OK || len(l) > sticks {
			t.Fatal(i, b, s, sticks, class, e)
		}
	}
}

func count(t *testing.T, b api.ToothBlade, s api.ToothSaw) int {
	l, e := tooth.Most(b, s)
	if e != api.OK {
		t.Fatal(b, s, e)
	}
	return len(l)
}

// narrower makes some of the spans narrower.
func narrower(r *rand.Rand, spans []api.Span) []api.Span {
	var l []api.Span
	for _, s := range spans {
		if r.Intn(2) == 0 {
			s.Low = between(r, s.Low, s.High)
			s.High = between(r, s.Low, s.High)
		}
		l = append(l, s)
	}
	return l
}

// P1.13: with narrower spans no span of Curve is wider, and Most has no fewer sticks.
func TestNarrower(t *testing.T) {
	r := rand.New(rand.NewSource(4))
	for i := range 3000 {
		b, s := anyBlade(r, size{columns: 9, high: 40, doubt: 6, cracks: 3, where: 4, kerf: 3})
		n := b
		n.Bottom, n.Top, n.Cracks = narrower(r, b.Bottom), narrower(r, b.Top), nil
		for _, k := range b.Cracks {
			l := narrower(r, []api.Span{k.Column, k.From, k.To})
			n.Cracks = append(n.Cracks, crack(l[0], l[1], l[2]))
		}
		if tooth.Check(n) == api.ErrState {
			continue
		}
		bottom, top, _ := tooth.Curve(b)
		under, over, _ := tooth.Curve(n)
		for x := range bottom {
			if under[x].Low < bottom[x].Low || under[x].High > bottom[x].High || over[x].Low < top[x].Low || over[x].High > top[x].High {
				t.Fatal(i, b, n, x)
			}
		}
		if count(t, n, s) < count(t, b, s) {
			t.Fatal(i, b, n, s)
		}
	}
}

// P1.9 and P1.14: without a crack there are more sticks by what it costs, and with narrower ones, or a thinner saw, no fewer.
func TestNoFewer(t *testing.T) {
	r := rand.New(rand.NewSource(5))
	for i := range 2000 {
		b, s := anyBlade(r, size{columns: 9, high: 40, doubt: 3, cracks: 4, where: 4, kerf: 3})
		now := count(t, b, s)
		costs, e := tooth.Costs(b, s)
		if len(costs) != len(b.Cracks) || e != api.OK {
			t.Fatal(i, b, s, costs, e)
		}
		for k, cost := range costs {
			w := b
			w.Cracks = slices.Delete(slices.Clone(b.Cracks), k, k+1)
			if cost < 0 || count(t, w, s) != now+cost {
				t.Fatal(i, b, s, k, costs)
			}
		}
		for _, z := range []api.ToothSaw{saw(s.Long, max(1, s.Wide-1), s.Kerf, s.Across), saw(s.Long, s.Wide, max(0, s.Kerf-1), s.Across), saw(s.Long, s.Wide, s.Kerf, max(0, s.Across-1))} {
			if count(t, b, z) < now {
				t.Fatal(i, b, s, z)
			}
		}
	}
}

// P1.11: all widths, tried from above.
func TestWidestOfAny(t *testing.T) {
	r := rand.New(rand.NewSource(6))
	for i := range 1000 {
		b, s := anyBlade(r, size{columns: 6, high: 40, doubt: 3, cracks: 3, where: 4, kerf: 3})
		sticks := between(r, 1, 20)
		want, none := 0, api.ErrNone
		for wide := 45; wide > 0; wide-- {
			if count(t, b, saw(s.Long, wide, s.Kerf, s.Across)) >= sticks {
				want, none = wide, api.OK
				break
			}
		}
		if n, e := tooth.Widest(b, s, sticks); n != want || e != none {
			t.Fatal(i, b, s, sticks, n, e)
		}
	}
}

// P1.10 and P1.15: a column is sounded, with all edges that can be found there.
func TestLooked(t *testing.T) {
	r := rand.New(rand.NewSource(7))
	for i := range 700 {
		b, s := anyBlade(r, size{columns: 5, high: 20, doubt: 4, cracks: 2, where: 3, kerf: 2})
		bottom, top, _ := tooth.Curve(b)
		now := count(t, b, s)
		column, gain := 0, 0
		for x := range bottom {
			for low := bottom[x].Low; low <= bottom[x].High; low++ {
				for high := top[x].Low; high <= top[x].High; high++ {
					n := b
					n.Bottom, n.Top = slices.Clone(b.Bottom), slices.Clone(b.Top)
					n.Bottom[x], n.Top[x] = to(low, low), to(high, high)
					more := count(t, n, s) - now
					if more < 0 {
						t.Fatal(i, b, s, x, low, high)
					}
					if more > gain {
						column, gain = x, more
					}
				}
			}
		}
		none := api.OK
		if gain == 0 {
			none = api.ErrNone
		}
		if c, g, e := tooth.Look(b, s); c != column || g != gain || e != none {
			t.Fatal(i, b, s, c, g, e, column, gain)
		}
	}
}
