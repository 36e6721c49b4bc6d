package guard

// matching finds partners for left guards, so that no one who has one is left without.
type matching struct {
	table
	partner map[int]int // the left guard that each right one is with
	asked   int         // the right guards that were asked for the left one that is looking now, as bits
}

// most returns how many pairs there can be together.
func (t table) most() int {
	m := matching{table: t, partner: map[int]int{}}
	for left := range len(t) {
		m.asked = 0
		m.settle(left)
	}
	return len(m.partner)
}

// settle finds a partner for a left guard, so that all that have one keep one; or it returns false.
func (m *matching) settle(left int) bool {
	for right := range m.partners(left) {
		if m.asked&(1<<right) != 0 {
			continue
		}
		m.asked |= 1 << right
		if other, taken := m.partner[right]; !taken || m.settle(other) {
			m.partner[right] = left
			return true
		}
	}
	return false
}
