package sets_test

import (
	"slices"
	"testing"

	"panache/sets"
)

func TestMembers(t *testing.T) {
	for i, c := range []struct {
		set  int
		want []int
	}{
		{0, nil}, {1, []int{0}}, {2, []int{1}}, {13, []int{0, 2, 3}}, {255, []int{0, 1, 2, 3, 4, 5, 6, 7}}, {1<<62 + 1<<31, []int{31, 62}}, {-1 << 63, []int{63}},
	} {
		if l := sets.Members(c.set); !slices.Equal(l, c.want) {
			t.Error(i, l)
		}
	}
}

func TestEach(t *testing.T) {
	for _, stop := range []int{0, 2, 3, 9} {
		var l []int
		for n := range sets.Each(13) {
			l = append(l, n)
			if n >= stop {
				break
			}
		}
		var want []int
		for _, n := range []int{0, 2, 3} {
			if n <= stop {
				want = append(want, n)
			}
		}
		if !slices.Equal(l, want) {
			t.Error(stop, l)
		}
	}
}

func TestFewer(t *testing.T) {
	ascending := [][]int{nil, {0}, {7}, {0, 1}, {0, 7}, {1, 2}, {0, 1, 2}}
	for i, a := range ascending {
		for k, b := range ascending {
			if n := sets.Fewer(a, b); (n < 0) != (i < k) || (n > 0) != (i > k) {
				t.Error(a, b, n)
			}
		}
	}
	if sets.Fewer(nil, []int{}) != 0 {
		t.Error("nil and empty")
	}
}

func TestFewest(t *testing.T) {
	for i, c := range []struct {
		many   int
		enough []int // sets
		want   []int
		found  bool
	}{
		{0, nil, nil, false}, {0, []int{0}, nil, true}, {3, nil, nil, false}, {3, []int{7, 0}, nil, true}, {3, []int{7}, []int{0, 1, 2}, true},
		{4, []int{6, 9}, []int{0, 3}, true}, {4, []int{5, 6, 9, 12}, []int{0, 2}, true}, {4, []int{7, 12}, []int{2, 3}, true}, {4, []int{8, 7, 4, 3}, []int{2}, true}, {4, []int{3, 8}, []int{3}, true}, {4, []int{13, 14, 15}, []int{0, 2, 3}, true},
		{4, []int{16, 31}, nil, false}, // of other numbers
	} {
		l, found := sets.Fewest(c.many, func(set int) bool { return slices.Contains(c.enough, set) })
		if !slices.Equal(l, c.want) || found != c.found {
			t.Error(i, l, found)
		}
	}
}
