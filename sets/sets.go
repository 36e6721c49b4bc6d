// Package sets has what several layers ask about sets of small numbers that are written as bits.
package sets

import (
	"cmp"
	"iter"
	"math/bits"
	"slices"
)

// Each yields the numbers of a set, ascending.
func Each(set int) iter.Seq[int] {
	return func(yield func(int) bool) {
		for left := uint(set); left != 0; left &= left - 1 {
			if !yield(bits.TrailingZeros(left)) {
				return
			}
		}
	}
}

// Members returns the numbers of a set, ascending.
func Members(set int) []int {
	return slices.Collect(Each(set))
}

// Fewer compares lists: first by how long they are, then by their elements.
func Fewer(a, b []int) int {
	return cmp.Or(cmp.Compare(len(a), len(b)), slices.Compare(a, b))
}

// Fewest returns the fewest of so many numbers, from 0 on, that are enough together: of several such lists the smallest one. It looks at all sets, so found is false only if none is enough.
func Fewest(many int, enough func(set int) bool) (fewest []int, found bool) {
	for set := range 1 << many {
		if found && bits.OnesCount(uint(set)) > len(fewest) || !enough(set) {
			continue
		}
		if l := Members(set); !found || Fewer(l, fewest) < 0 {
			fewest, found = l, true
		}
	}
	return fewest, found
}
