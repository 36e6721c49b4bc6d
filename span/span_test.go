package span

import (
	"math"
	"testing"

	"panache/api"
)

func TestWithin(t *testing.T) {
	for i, c := range []struct {
		low, high int
		numbers   []int
		want      bool
	}{
		{0, 5, nil, true}, {0, 5, []int{0}, true}, {0, 5, []int{5}, true}, {0, 5, []int{-1}, false}, {0, 5, []int{6}, false},
		{0, 5, []int{0, 5, 3}, true}, {0, 5, []int{0, 5, 6}, false}, {0, 5, []int{-1, 5, 5}, false}, {1, 0, []int{0}, false}, {1, 0, []int{1}, false},
		{0, 5, []int{math.MinInt}, false}, {0, 5, []int{math.MaxInt}, false},
	} {
		if got := Within(c.low, c.high, c.numbers...); got != c.want {
			t.Error(i, got)
		}
	}
}

func TestValid(t *testing.T) {
	for i, c := range []struct {
		low, high int
		spans     []api.Span
		want      bool
	}{
		{0, 5, nil, true}, {0, 5, []api.Span{{Low: 0, High: 5}}, true}, {0, 5, []api.Span{{Low: 3, High: 3}}, true}, {0, 5, []api.Span{{Low: 4, High: 3}}, false},
		{0, 5, []api.Span{{Low: -1, High: 3}}, false}, {0, 5, []api.Span{{Low: 3, High: 6}}, false}, {0, 5, []api.Span{{Low: 1, High: 2}, {Low: 2, High: 1}}, false},
		{0, 5, []api.Span{{Low: math.MinInt, High: math.MaxInt}}, false}, {0, -1, []api.Span{{}}, false},
	} {
		if got := Valid(c.low, c.high, c.spans...); got != c.want {
			t.Error(i, got)
		}
	}
}

func TestSum(t *testing.T) {
	for i, c := range []struct {
		spans []api.Span
		want  api.Span
	}{
		{nil, api.Span{}}, {[]api.Span{{Low: 3, High: 5}}, api.Span{Low: 3, High: 5}}, {[]api.Span{{Low: 3, High: 5}, {Low: 4, High: 4}, {Low: -9, High: 1}}, api.Span{Low: -2, High: 10}},
	} {
		if got := Sum(c.spans...); got != c.want {
			t.Error(i, got)
		}
	}
}

func TestCommon(t *testing.T) {
	for i, c := range []struct{ a, b, want api.Span }{
		{api.Span{Low: 1, High: 5}, api.Span{Low: 3, High: 9}, api.Span{Low: 3, High: 5}}, {api.Span{Low: -4, High: 9}, api.Span{Low: 1, High: 2}, api.Span{Low: 1, High: 2}}, {api.Span{Low: 1, High: 5}, api.Span{Low: 5, High: 6}, api.Span{Low: 5, High: 5}}, {api.Span{Low: 1, High: 5}, api.Span{Low: 8, High: 9}, api.Span{Low: 8, High: 5}},
	} {
		if a, b := Common(c.a, c.b), Common(c.b, c.a); a != c.want || b != c.want {
			t.Error(i, a, b)
		}
	}
}
