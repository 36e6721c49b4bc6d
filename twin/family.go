package twin

import (
	"iter"

	"panache/api"
	"panache/span"
)

// original is what a family has for a fan that is no copy.
const original = -1

// family has for each fan the one that it is a copy of, or original.
type family []int

// valid reports whether a list is a family of so many fans.
func (f family) valid(fans int) bool {
	if len(f) != fans || !span.Within(original, fans-1, f...) {
		return false
	}
	for _, from := range f {
		for range fans {
			if from != original {
				from = f[from]
			}
		}
		if from != original {
			return false // some fan is a copy of a copy, and so on, of itself
		}
	}
	return true
}

// allFamilies yields all families of so many fans, the smallest one first. It is one list that changes.
func allFamilies(fans int) iter.Seq[family] {
	return func(yield func(family) bool) {
		f := make(family, fans)
		var give func(fan int) bool
		give = func(fan int) bool {
			if fan == fans {
				return !f.valid(fans) || yield(f)
			}
			for from := original; from < fans; from++ {
				f[fan] = from
				if !give(fan + 1) {
					return false
				}
			}
			return true
		}
		give(0)
	}
}

// originals returns how many fans are originals.
func (f family) originals() int {
	many := 0
	for _, from := range f {
		if from == original {
			many++
		}
	}
	return many
}

// narrow narrows what a measure of each fan can be to what it can be if each copy has so much more than the fan that it was copied from. If that cannot be, some spans are left without a number.
func (f family) narrow(can []api.Span, copied api.Span) {
	less := api.Span{Low: -copied.High, High: -copied.Low}
	for range f { // what is known of a fan goes a copy farther each time
		for fan, from := range f {
			if from != original {
				can[fan] = span.Common(can[fan], span.Sum(can[from], copied))
				can[from] = span.Common(can[from], span.Sum(can[fan], less))
			}
		}
	}
}
