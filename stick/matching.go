package stick

import "panache/api"

// matching finds a spot for each stick of a row that no other one has.
type matching struct {
	row
	whose [api.MaxStickTeeth][api.MaxStickPlaces + 1]int  // 1 more than the stick that has the spot, 0 if none has it
	asked [api.MaxStickTeeth][api.MaxStickPlaces + 1]bool // for the stick that is looking now
}

// hasTruth reports whether the row has a truth.
func (r row) hasTruth() bool {
	m := matching{row: r}
	for stick := range len(r) {
		clear(m.asked[:])
		if !m.settle(stick) {
			return false
		}
	}
	return true
}

// settle finds a spot for a stick, so that all that have one keep one; or it returns false.
func (m *matching) settle(stick int) bool {
	for at := range m.spotsOf(stick) {
		if m.asked[at.Tooth][at.Place] {
			continue
		}
		m.asked[at.Tooth][at.Place] = true
		if other := m.whose[at.Tooth][at.Place]; other == 0 || m.settle(other-1) {
			m.whose[at.Tooth][at.Place] = stick + 1
			return true
		}
	}
	return false
}
