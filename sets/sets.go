// Package sets has what several layers ask about sets of small numbers that are written as bits.
package sets

import (
	"cmp"
	"math/bits"
	"slices"
)

// Members returns the numbers of a set, ascending.
func Members(set int) []int {
	var l []int
	for left := uint(set); left != 0; left &= left - 1 {
		l = append(l, bits.TrailingZeros(left))
	}
	return l
}

// Fewer compares lists: first by how long they are, then by their elements.
func Fewer(a, b []int) int {
	return cmp.Or(cmp.Compare(len(a), len(b)), slices.Compare(a, b))
}
