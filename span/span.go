// Package span has what layers ask about numbers and spans.
package span

import "panache/api"

// Within reports whether all numbers are from low to high.
func Within(low, high int, numbers ...int) bool {
	for _, n := range numbers {
		if n < low || n > high {
			return false
		}
	}
	return true
}

// Valid reports whether all spans are valid from low to high.
func Valid(low, high int, spans ...api.Span) bool {
	for _, s := range spans {
		if s.Low > s.High || !Within(low, high, s.Low, s.High) {
			return false
		}
	}
	return true
}

// Sum returns all that numbers of some spans, one of each, can come to.
func Sum(spans ...api.Span) api.Span {
	var all api.Span
	for _, s := range spans {
		all.Low += s.Low
		all.High += s.High
	}
	return all
}

// Common returns the numbers that two spans have both. If there are none, its Low is above its High.
func Common(a, b api.Span) api.Span {
	return api.Span{Low: max(a.Low, b.Low), High: min(a.High, b.High)}
}
