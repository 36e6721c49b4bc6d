package stick

// looking is a row whose sticks are looked at, and how many looks decide it after some spots were seen, as far as that is known.
type looking struct {
	row
	known map[spots]int
}

// decided reports whether the row is right in all truths that are left, or in none of them.
func (l looking) decided(left []spots) bool {
	for _, t := range left {
		if l.rightIn(t) != l.rightIn(left[0]) {
			return false
		}
	}
	return true
}

// looks returns how many looks decide the row when the truths that are left are as was seen; and the least stick to look at first, or -1.
func (l looking) looks(seen spots, left []spots) (many, first int) {
	if l.decided(left) {
		return 0, -1
	}
	for stick := range len(l.row) {
		if seen[stick].Place > 0 {
			continue
		}
		if n := 1 + l.after(stick, seen, left); many == 0 || n < many {
			many, first = n, stick
		}
	}
	return many, first
}

// after returns how many looks are needed behind one at a stick, whatever that tells.
func (l looking) after(stick int, seen spots, left []spots) int {
	most := 0
	for at := range l.spotsOf(stick) {
		seen[stick] = at
		most = max(most, l.then(stick, seen, left))
	}
	return most
}

// then returns how many looks are needed when a stick was the last one that was seen.
func (l looking) then(stick int, seen spots, left []spots) int {
	if n, ok := l.known[seen]; ok {
		return n
	}
	var as []spots
	for _, t := range left {
		if t[stick] == seen[stick] {
			as = append(as, t)
		}
	}
	n, _ := l.looks(seen, as)
	if n > 0 { // what is decided is found again at once, and there is much of it
		l.known[seen] = n
	}
	return n
}

// truthsUpTo returns all truths of the row, or false if there are more than so many.
func (r row) truthsUpTo(many int) ([]spots, bool) {
	var all []spots
	for t := range r.truths {
		if len(all) == many {
			return nil, false
		}
		all = append(all, t)
	}
	return all, true
}
