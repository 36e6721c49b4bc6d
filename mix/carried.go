package mix

import (
	"panache/api"
	"panache/span"
)

// sums is how much there can be together of each stuff.
type sums [api.MaxMixStuffs]api.Span

// plus returns the sums with what is held of each stuff more.
func (s sums) plus(held ...api.Span) sums {
	for stuff, more := range held {
		s[stuff] = span.Sum(s[stuff], more)
	}
	return s
}

// meet reports whether each sum can be a number of the span of its stuff.
func (s sums) meet(held ...api.Span) bool {
	for stuff, h := range held {
		if both := span.Common(s[stuff], h); both.Low > both.High {
			return false
		}
	}
	return true
}

// carried is what a carrier has: so many boxes, and what can be in them together.
type carried struct {
	sums
	boxes int
}

// with returns what a carrier has with a box more.
func (c carried) with(b api.MixBox) carried {
	return carried{c.plus(b.Held...), c.boxes + 1}
}
