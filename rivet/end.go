package rivet

import (
	"cmp"
	"slices"

	"panache/api"
)

// end is one end of what can be: the least or the most of all truths.
type end struct {
	rises func(s api.Span) int                   // the number of a span with which what is asked grows
	falls func(s api.Span) int                   // the number of a span with which it shrinks
	pick  func(candidates []api.Ratio) api.Ratio // the outermost one
}

func low(s api.Span) int { return s.Low }

func high(s api.Span) int { return s.High }

// leastEnd is the end below which nothing is.
func leastEnd() end {
	return end{rises: low, falls: high, pick: func(l []api.Ratio) api.Ratio { return slices.MinFunc(l, compare) }}
}

// mostEnd is the end above which nothing is.
func mostEnd() end {
	return end{rises: high, falls: low, pick: func(l []api.Ratio) api.Ratio { return slices.MaxFunc(l, compare) }}
}

// compare compares ratios exactly. Both have a Den above 0.
func compare(a, b api.Ratio) int { return cmp.Compare(a.Num*b.Den, b.Num*a.Den) }

// inLowestTerms returns a ratio, not below 0, in lowest terms.
func inLowestTerms(r api.Ratio) api.Ratio {
	a, b := r.Den, r.Num
	for b != 0 {
		a, b = b, a%b
	}
	return api.Ratio{Num: r.Num / a, Den: r.Den / a}
}

func sum(numbers ...int) int {
	all := 0
	for _, n := range numbers {
		all += n
	}
	return all
}
