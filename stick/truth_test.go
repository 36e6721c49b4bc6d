package stick_test

import (
	"math/rand"
	"slices"
	"strings"
	"testing"

	"panache/api"
	"panache/stick"
)

// seen is what all truths of a row say, looked at one after another as the chapter says them.
type seen struct {
	truths           [][]api.StickSpot
	surely, possibly bool
	first            int // the number of sticks if there is none
	can              [][]api.StickSpot
}

func lookAtAll(l []api.StickMark) seen {
	w := seen{surely: true, can: make([][]api.StickSpot, len(l))}
	for u := range truths(l) {
		w.truths = append(w.truths, u)
		w.surely = w.surely && right(u)
		w.possibly = w.possibly || right(u)
		for k, s := range u {
			if right(u[:k+1]) {
				w.first = max(w.first, k+1)
			}
			if !slices.Contains(w.can[k], s) {
				w.can[k] = append(w.can[k], s)
			}
		}
	}
	for _, spots := range w.can {
		slices.SortFunc(spots, func(a, b api.StickSpot) int {
			return slices.Compare([]int{a.Tooth, a.Place}, []int{b.Tooth, b.Place})
		})
	}
	return w
}

// P2.1 to P2.5, P2.11 and P2.12 against all truths of small rows.
func TestAllTruths(t *testing.T) {
	r := rand.New(rand.NewSource(1))
	counts := map[bool]int{}
	for i := range 4000 {
		l := smallRow(r, 6, 3000)
		w := lookAtAll(l)
		surely, possibly, e := stick.Right(l)
		if surely != w.surely || possibly != w.possibly || e != api.OK {
			t.Fatal(i, l, surely, possibly, e)
		}
		counts[surely]++
		want, none := w.first, api.OK
		if possibly {
			want, none = 0, api.ErrNone
		}
		if k, e := stick.First(l); k != want || e != none {
			t.Fatal(i, l, k, e, w.first)
		}
		for k := range l {
			if can, e := stick.Can(l, k); !slices.Equal(can, w.can[k]) || e != api.OK {
				t.Fatal(i, l, k, can, e)
			}
		}
	}
	if counts[true] < 500 || counts[false] < 500 {
		t.Error(counts)
	}
}

// P2.1: a row has a truth just if one is found when all spots are tried.
func TestNoTruth(t *testing.T) {
	r := rand.New(rand.NewSource(2))
	counts := map[api.Errno]int{}
	for i := range 20000 {
		var l []api.StickMark
		for range between(r, 2, 6) {
			l = append(l, anyMark(r, 2, 2, 3))
		}
		want := api.ErrState
		for range truths(l) {
			want = api.OK
			break
		}
		counts[want]++
		if e := stick.Check(l); e != want {
			t.Fatal(i, l, e)
		}
	}
	if counts[api.OK] < 500 || counts[api.ErrState] < 500 {
		t.Error(counts)
	}
}

// P2.4 and P2.12: all lists of sticks are taken out, fewer first, in their order.
func TestOutOfAny(t *testing.T) {
	r := rand.New(rand.NewSource(3))
	for i := range 2000 {
		l := smallRow(r, 6, 3000)
		want := []int(nil)
	search:
		for many := range len(l) + 1 {
			for _, out := range lists(many, len(l)) {
				if possiblyRight(without(l, out)) {
					want = out
					break search
				}
			}
		}
		out, e := stick.Out(l)
		if !slices.Equal(out, want) || e != api.OK {
			t.Fatal(i, l, out, want, e)
		}
		if _, possibly, _ := stick.Right(l); possibly != (len(out) == 0) {
			t.Fatal(i, l, out)
		}
		if _, possibly, e := stick.Right(without(l, out)); !possibly || e != api.OK {
			t.Fatal(i, l, out, e)
		}
	}
}

// looks tries all looks at a row, as the chapter says them.
func looks(left [][]api.StickSpot, sticks int) (many, first int) {
	some := slices.ContainsFunc(left, right)
	if !some || !slices.ContainsFunc(left, func(u []api.StickSpot) bool { return !right(u) }) {
		return 0, -1
	}
	for k := range sticks {
		as := map[api.StickSpot][][]api.StickSpot{}
		for _, u := range left {
			as[u[k]] = append(as[u[k]], u)
		}
		if len(as) == 1 {
			continue // nothing new is seen
		}
		most := 0
		for _, rest := range as {
			n, _ := looks(rest, sticks)
			most = max(most, 1+n)
		}
		if many == 0 || most < many {
			many, first = most, k
		}
	}
	return many, first
}

// P2.6 and P2.13: all looks at rows that have few truths, and what the first one can tell.
func TestLooksOfAny(t *testing.T) {
	r := rand.New(rand.NewSource(4))
	counts := map[int]int{}
	for i := range 3000 {
		l := smallRow(r, 5, 200)
		w := lookAtAll(l)
		wantMany, wantFirst := looks(w.truths, len(l))
		many, first, e := stick.Looks(l)
		if many != wantMany || first != wantFirst || e != api.OK {
			t.Fatal(i, l, many, first, e, wantMany, wantFirst)
		}
		counts[many]++
		if many == 0 {
			if w.possibly && !w.surely {
				t.Fatal(i, l)
			}
			continue
		}
		for _, s := range w.can[first] {
			told := slices.Clone(l)
			told[first] = mark(1<<s.Tooth, s.Place, s.Place)
			if n, _, e := stick.Looks(told); n > many-1 || e != api.OK {
				t.Fatal(i, l, first, s, n, many, e)
			}
		}
	}
	for many := range 5 {
		if counts[many] < 4 {
			t.Error(counts)
		}
	}
}

// P2.6: the number of truths decides between ErrFull and an answer.
func TestManyTruths(t *testing.T) {
	r := rand.New(rand.NewSource(5))
	counts := map[api.Errno]int{}
	for i := range 3000 {
		l := smallRow(r, 6, 5000)
		want := api.OK
		if len(lookAtAll(l).truths) > api.MaxStickTruths {
			want = api.ErrFull
		}
		counts[want]++
		if _, _, e := stick.Looks(l); e != want {
			t.Fatal(i, l, e)
		}
	}
	if counts[api.OK] < 50 || counts[api.ErrFull] < 50 {
		t.Error(counts)
	}
}

// P2.7: all fans of few sticks are tried.
func TestMostOfAny(t *testing.T) {
	r := rand.New(rand.NewSource(6))
	for i := range 3000 {
		cuts := anyCuts(r, 9, 2, 12)
		f := fan(between(r, 2, 4), between(r, 0, 2), between(r, 0, 10))
		var all []int
		for k := range cuts {
			all = append(all, k)
		}
		if n, e := stick.Most(cuts, f); n != mostFans(cuts, f, all) || e != api.OK {
			t.Fatal(i, cuts, f, n, e)
		}
	}
}

// P2.14
func TestFansOfAny(t *testing.T) {
	r := rand.New(rand.NewSource(7))
	for i := range 5000 {
		cuts := anyCuts(r, api.MaxStickCuts, api.MaxStickTeeth, 30)
		f := fan(between(r, 2, 5), between(r, 0, 4), between(r, 0, 25))
		most := func(cuts []api.StickCut, f api.StickFan) int {
			n, e := stick.Most(cuts, f)
			if e != api.OK {
				t.Fatal(i, cuts, f, e)
			}
			return n
		}
		now := most(cuts, f)
		fans, e := stick.Fans(cuts, f)
		if len(fans) != now || e != api.OK {
			t.Fatal(i, cuts, f, fans, e)
		}
		checkFans(t, cuts, f, fans)
		if n := len(cuts); n > 0 && most(cuts[:n-1], f) > now {
			t.Fatal(i, "a stick more", cuts, f)
		}
		if most(cuts, fan(f.Count, f.Off, f.Spread+1)) < now || most(cuts, fan(f.Count, max(0, f.Off-1), f.Spread)) < now || most(cuts, fan(f.Count+1, f.Off, f.Spread)) > now {
			t.Fatal(i, cuts, f)
		}
	}
}

// P2.8, P2.9 and P2.15: all that a piercer can do with few sticks.
func TestWholeOfAll(t *testing.T) {
	for of := 2; of <= 5; of++ {
		for high := range of + 1 {
			l := loss(of, high)
			for n := range 12 {
				whole := map[int]bool{}
				for text := range fills(l, strings.Repeat("?", n)) {
					whole[n-broken(text)] = true
				}
				s, e := stick.Whole(l, n)
				if e != api.OK || len(whole) != s.High-s.Low+1 {
					t.Fatal(l, n, s, e, whole)
				}
				for k := range whole {
					if k < s.Low || k > s.High {
						t.Fatal(l, n, s, k)
					}
				}
			}
		}
	}
}

// P2.9 and P2.15: of as many as Give says the wanted ones surely stay whole, and of one fewer not.
func TestGiveOfAll(t *testing.T) {
	for of := 2; of <= api.MaxStickOf; of++ {
		for high := range of {
			l := loss(of, high)
			for _, want := range []int{0, 1, 2, 3, 5, 8, 13, 40, 99, 1234, 99999} {
				n, e := stick.Give(l, want)
				s, f := stick.Whole(l, n)
				if e != api.OK || f != api.OK || s.Low < want {
					t.Fatal(l, want, n, s, e, f)
				}
				if n == 0 {
					continue
				}
				if s, _ := stick.Whole(l, n-1); s.Low >= want {
					t.Fatal(l, want, n, s)
				}
			}
		}
	}
}

// anySeen makes a text of sticks that were seen.
func anySeen(r *rand.Rand, most int) string {
	var b strings.Builder
	for range between(r, 0, most) {
		b.WriteByte("oo??????x"[r.Intn(9)])
	}
	return b.String()
}

// P2.10 and P2.15: all that can have broken of few sticks.
func TestBrokeOfAll(t *testing.T) {
	r := rand.New(rand.NewSource(8))
	counts := map[api.Errno]int{}
	for i := range 3000 {
		l := loss(between(r, 2, 6), 0)
		l.High = between(r, 0, l.Of)
		text := anySeen(r, 12)
		never, always := make([]bool, len(text)), make([]bool, len(text))
		for k := range text {
			never[k], always[k] = true, true
		}
		want := api.ErrState
		for full := range fills(l, text) {
			want = api.OK
			for k := range full {
				never[k] = never[k] && full[k] == 'o'
				always[k] = always[k] && full[k] == 'x'
			}
		}
		var sure, may []int
		for k := range text {
			if text[k] == '?' && want == api.OK {
				if always[k] {
					sure = append(sure, k)
				}
				if !never[k] {
					may = append(may, k)
				}
			}
		}
		counts[want]++
		surely, possibly, e := stick.Broke(l, text)
		if !slices.Equal(surely, sure) || !slices.Equal(possibly, may) || e != want {
			t.Fatal(i, l, text, surely, possibly, e)
		}
	}
	if counts[api.OK] < 300 || counts[api.ErrState] < 300 {
		t.Error(counts)
	}
}

// P2.15: with one stick more seen no fewer are known: those that were seen, those that surely broke, and those that surely did not.
func TestOneMoreSeen(t *testing.T) {
	r := rand.New(rand.NewSource(9))
	known := func(l api.StickLoss, text string) (int, api.Errno) {
		surely, possibly, e := stick.Broke(l, text)
		return len(text) - len(possibly) + len(surely), e
	}
	for i := range 5000 {
		l := loss(between(r, 2, api.MaxStickOf), 0)
		l.High = between(r, 1, l.Of)
		text := anySeen(r, api.MaxStickSeen)
		k := strings.IndexByte(text, '?')
		now, e := known(l, text)
		if k < 0 || e != api.OK {
			continue
		}
		for _, c := range []string{"o", "x"} {
			more, e := known(l, text[:k]+c+text[k+1:])
			if e == api.OK && more < now || c == "o" && e != api.OK {
				t.Fatal(i, l, text, c, now, more, e)
			}
		}
	}
}
