package mix

import (
	"panache/api"
	"panache/sets"
)

// answers is what was said: for each box 1 more than its carrier, or 0 if it was not asked about.
type answers [api.MaxMixBoxes]int

func (a answers) with(box, carrier int) answers {
	a[box] = carrier + 1
	return a
}

// plan is how many questions decide, and the box to ask about first: -1 if none is needed.
type plan struct{ many, first int }

// inquiry has the plans that are known, by the answers after which they are made: without it they would be made anew for each order of the same answers.
type inquiry map[answers]plan

// plan returns the plan with the fewest questions for the ways that some answers leave.
func (q inquiry) plan(left ways, said answers) plan {
	if len(left) == 1 {
		return plan{first: -1}
	}
	if p, ok := q[said]; ok {
		return p
	}
	best := plan{many: len(left)} // more than are needed, as some way goes with each question that is worth something
	for box := range left.boxes() {
		if left.worth(box) == len(left) {
			continue // its answer is known
		}
		if many := 1 + q.after(left, said, box); many < best.many {
			best = plan{many, box}
		}
	}
	q[said] = best
	return best
}

// after returns how many questions decide after the one about a box, whatever its answer is.
func (q inquiry) after(left ways, said answers, box int) int {
	most := 0
	for carrier := range sets.Each(left.carriers(box)) {
		most = max(most, q.plan(left.giving(box, carrier), said.with(box, carrier)).many)
	}
	return most
}
