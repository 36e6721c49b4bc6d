package lattice

import (
	"slices"
	"strings"

	"panache/api"
	"panache/span"
)

// check asks about arguments: it returns their error.
type check func() api.Errno

// firstError returns the error of the first check that has one. The checks behind it are not asked, so that each one can rely on those before.
func firstError(checks ...check) api.Errno {
	for _, c := range checks {
		if e := c(); e != api.OK {
			return e
		}
	}
	return api.OK
}

// unless is a check with an error unless a condition holds.
func unless(e api.Errno, holds func() bool) check {
	return func() api.Errno {
		if holds() {
			return api.OK
		}
		return e
	}
}

// areRows checks rows of a form, with these bytes.
func areRows(rows []string, wide, high int, bytes string) check {
	oblong := func() bool {
		other := func(row string) bool { return len(row) != len(rows[0]) }
		return span.Within(1, high, len(rows)) && span.Within(1, wide, len(rows[0])) && !slices.ContainsFunc(rows, other)
	}
	known := func() bool {
		// Only these bytes are taken away: any other one stays.
		other := func(row string) bool { return strings.Trim(row, bytes) != "" }
		return !slices.ContainsFunc(rows, other)
	}
	return func() api.Errno {
		return firstError(unless(api.ErrForm, oblong), unless(api.ErrArg, known))
	}
}

func isPicture(p []string) check {
	return areRows(p, api.MaxLatticeWide, api.MaxLatticeHigh, "0123")
}

func isSeen(seen []string) check {
	return areRows(seen, api.MaxLatticeWide, api.MaxLatticeHigh, "0123?")
}

func isLattice(bars []string) check {
	return areRows(bars, api.MaxLatticeBars, api.MaxLatticeBars, "#.")
}

// each checks views or pictures one after another.
func each(l [][]string, is func(rows []string) check) check {
	return func() api.Errno {
		for _, rows := range l {
			if e := firstError(is(rows)); e != api.OK {
				return e
			}
		}
		return api.OK
	}
}

// arePictures checks pictures that are compared.
func arePictures(l [][]string) check {
	return func() api.Errno {
		return firstError(areAtMost(api.MaxLatticePictures, len(l)), each(l, isPicture), haveOneSize(api.ErrForm, l...))
	}
}

// haveOneSize checks with its error whether all rows are as many, and as long.
func haveOneSize(e api.Errno, l ...[]string) check {
	return unless(e, func() bool {
		other := func(rows []string) bool { return sizeOf(rows) != sizeOf(l[0]) }
		return !slices.ContainsFunc(l, other)
	})
}

func areAtMost(most, many int) check {
	return unless(api.ErrLong, func() bool { return many <= most })
}

func areSome(many int) check {
	return unless(api.ErrNone, func() bool { return many > 0 })
}

func areWithin(low, high int, numbers ...int) check {
	return unless(api.ErrRange, func() bool { return span.Within(low, high, numbers...) })
}

func isSize(wide, high int) check {
	return unless(api.ErrRange, func() bool {
		return span.Within(1, api.MaxLatticeWide, wide) && span.Within(1, api.MaxLatticeHigh, high)
	})
}

func isShift(bars []string, s api.LatticeShift) check {
	return unless(api.ErrRange, func() bool {
		z := sizeOf(bars)
		return span.Within(0, z.wide-1, s.X) && span.Within(0, z.high-1, s.Y)
	})
}

func areRooms(bars []string, rooms []api.LatticeRoom) check {
	return unless(api.ErrArg, func() bool {
		z := sizeOf(bars)
		wrong := func(r api.LatticeRoom) bool {
			return !span.Valid(0, z.wide-1, r.X) || !span.Valid(0, z.high-1, r.Y)
		}
		return !slices.ContainsFunc(rooms, wrong)
	})
}

// areCounts checks counts of a picture with these rows.
func areCounts(rows []string, c api.LatticeCounts) check {
	return unless(api.ErrRange, func() bool {
		wrong := func(numbers []int) bool {
			return len(numbers) != api.MaxLatticeColours || !span.Within(0, maxCells, numbers...)
		}
		fit := size{len(c.Columns), len(c.Rows)} == sizeOf(rows)
		return fit && !slices.ContainsFunc(c.Rows, wrong) && !slices.ContainsFunc(c.Columns, wrong)
	})
}
