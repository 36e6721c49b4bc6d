package guard

import (
	"cmp"
	"iter"
	"slices"

	"panache/api"
	"panache/sets"
)

// table is the right guards, as bits, that each left one can be a pair with.
type table []int

// tableOf returns the table of the pairs of a stock for which a condition holds.
func tableOf(s api.GuardStock, canPair func(left, right int) bool) table {
	t := make(table, len(s.Left))
	for left := range len(s.Left) {
		for right := range len(s.Right) {
			if canPair(left, right) {
				t[left] |= 1 << right
			}
		}
	}
	return t
}

// partners yields the right guards that a left one can be a pair with, ascending.
func (t table) partners(left int) iter.Seq[int] { return sets.Each(t[left]) }

// all returns all pairs that can be, ascending.
func (t table) all() []api.GuardPair {
	var pairs []api.GuardPair
	for left := range len(t) {
		for right := range t.partners(left) {
			pairs = append(pairs, api.GuardPair{Left: left, Right: right})
		}
	}
	return pairs
}

// withoutLeft returns the table in which a left guard has no partners.
func (t table) withoutLeft(left int) table {
	rest := slices.Clone(t)
	rest[left] = 0
	return rest
}

// withoutRight returns the table in which a right guard has no partners.
func (t table) withoutRight(right int) table {
	rest := slices.Clone(t)
	for left := range len(rest) {
		rest[left] &^= 1 << right
	}
	return rest
}

// bound returns the table in which two guards can only be a pair with each other.
func (t table) bound(left, right int) table {
	rest := t.withoutRight(right)
	rest[left] = 1 << right
	return rest
}

// smallest returns the most pairs that there can be together: of several such lists the smallest one.
func (t table) smallest() []api.GuardPair {
	most := t.most()
	var pairs []api.GuardPair
	for left := range len(t) {
		for right := range t.partners(left) {
			if rest := t.bound(left, right); rest.most() == most {
				pairs = append(pairs, api.GuardPair{Left: left, Right: right})
				t = rest
				break
			}
		}
	}
	return pairs
}

// cover returns the fewest guards one of which at least is in each pair: of several such ones those with the smallest list of left ones.
func (t table) cover() (left, right []int) {
	right = sets.Members(t.partnersBut(0))
	for set := range 1 << len(t) {
		l, r := sets.Members(set), sets.Members(t.partnersBut(set))
		if fewer := cmp.Compare(len(l)+len(r), len(left)+len(right)); cmp.Or(fewer, slices.Compare(l, left)) < 0 {
			left, right = l, r
		}
	}
	return left, right
}

// partnersBut returns the partners, as bits, of all left guards but those of a set.
func (t table) partnersBut(set int) int {
	partners := 0
	for left := range len(t) {
		if set&(1<<left) == 0 {
			partners |= t[left]
		}
	}
	return partners
}
