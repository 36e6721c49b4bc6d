package pleat

import (
	"panache/api"
	"panache/span"
)

// wetting is how a leaf changes that is wetted: each place becomes one from it times least to it times most.
type wetting struct{ least, most api.Ratio }

// valid reports whether both ratios are valid, and in their order.
func (w wetting) valid() bool {
	for _, r := range [...]api.Ratio{w.least, w.most} {
		if !span.Within(1, api.MaxPleatWet, r.Den) || !span.Within(1, 2*r.Den, r.Num) {
			return false
		}
	}
	return w.least.Num*w.most.Den <= w.most.Num*w.least.Den
}

// low and high return the ends between which a place lies then.
func (w wetting) low(place int) int { return place * w.least.Num / w.least.Den }

func (w wetting) high(place int) int { return (place*w.most.Num + w.most.Den - 1) / w.most.Den }

// wide returns where a place lies then that was in a span.
func (w wetting) wide(s api.Span) api.Span {
	return api.Span{Low: w.low(s.Low), High: w.high(s.High)}
}
