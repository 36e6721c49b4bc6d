// Package span has what every layer asks about numbers and spans before it uses them.
package span

import "panache/api"

// Within reports whether all numbers are from low to high.
func Within(low, high int, numbers ...int) bool {
	for _, n := range numbers {
		if n < low || n > high {
			return false
		}
	}
	return true
}

// Valid reports whether all spans are valid from low to high.
func Valid(low, high int, spans ...api.Span) bool {
	for _, s := range spans {
		if s.Low > s.High || !Within(low, high, s.Low, s.High) {
			return false
		}
	}
	return true
}
