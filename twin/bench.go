package twin

import (
	"cmp"
	"slices"

	"panache/api"
	"panache/sets"
	"panache/span"
)

// By how many errors of a gauge more two measures may have been gauged to differ.
const (
	inSomeTruth = 2  // both errors can bring them nearer
	inAllTruths = -2 // both errors can part them
)

// bench is fans that were measured with a gauge, all valid.
type bench struct {
	api.TwinGauge
	fans []api.TwinFan
}

// benchOf returns the bench of a gauge and fans, or their error.
func benchOf(g api.TwinGauge, fans ...api.TwinFan) (bench, api.Errno) {
	if e := gaugeError(g); e != api.OK {
		return bench{}, e
	}
	if e := fansError(fans, len(g.Off)); e != api.OK {
		return bench{}, e
	}
	return bench{g, fans}, api.OK
}

// gaugeError returns the error of a gauge.
func gaugeError(g api.TwinGauge) api.Errno {
	switch {
	case !span.Within(1, api.MaxTwinMeasures, len(g.Off)) || len(g.Make) != len(g.Off) || len(g.Copy) != len(g.Off):
		return api.ErrForm
	case !span.Within(0, api.MaxTwinOff, g.Off...) || !span.Within(0, api.MaxTwinMake, g.Make...) || !span.Valid(-api.MaxTwinMake, api.MaxTwinMake, g.Copy...):
		return api.ErrArg
	}
	return api.OK
}

// fansError returns the error of fans that have so many measures.
func fansError(fans []api.TwinFan, measures int) api.Errno {
	wrong := func(a api.TwinFan) bool {
		return len(a.Measures) != measures || !span.Within(0, api.MaxTwinLong, a.Measures...)
	}
	switch {
	case len(fans) > api.MaxTwinFans:
		return api.ErrLong
	case slices.ContainsFunc(fans, wrong):
		return api.ErrRange
	}
	return api.OK
}

// measures returns how many measures a fan has.
func (b bench) measures() int { return len(b.Off) }

// all returns all fans.
func (b bench) all() []int { return b.allBut(0) }

// allBut returns the fans that are not in a set.
func (b bench) allBut(set int) []int { return sets.Members((1<<len(b.fans) - 1) &^ set) }

// gauged returns what was gauged as a measure of some fans.
func (b bench) gauged(measure int, fans ...int) []int {
	var l []int
	for _, fan := range fans {
		l = append(l, b.fans[fan].Measures[measure])
	}
	return l
}

// fit reports whether a measure of some fans was gauged to differ by no more than that of twins, and so many errors more.
func (b bench) fit(measure, errors int, fans ...int) bool {
	l := b.gauged(measure, fans...)
	return len(l) < 2 || slices.Max(l)-slices.Min(l) <= 2*b.Make[measure]+errors*b.Off[measure]
}

// twins reports whether some fans fit in all measures.
func (b bench) twins(errors int, fans ...int) bool {
	for measure := range b.measures() {
		if !b.fit(measure, errors, fans...) {
			return false
		}
	}
	return true
}

// twinSets yields all lists of fans that are twins in some truth, they alone.
func (b bench) twinSets(yield func(fans []int) bool) {
	for set := range 1 << len(b.fans) {
		if fans := sets.Members(set); b.twins(inSomeTruth, fans...) && !yield(fans) {
			return
		}
	}
}

// most returns the most fans that are twins in some truth: of several such lists the smallest one.
func (b bench) most() []int {
	var most []int
	for fans := range b.twinSets {
		if more := cmp.Compare(len(most), len(fans)); cmp.Or(more, slices.Compare(fans, most)) < 0 {
			most = fans
		}
	}
	return most
}

// pattern returns what a measure of the pattern of all fans can be. They are twins in some truth, and there is one at least.
func (b bench) pattern(measure int) api.Span {
	l, missed := b.gauged(measure, b.all()...), b.Off[measure]+b.Make[measure]
	return api.Span{Low: slices.Max(l) - missed, High: slices.Min(l) + missed}
}

// copied reports whether a fan was gauged to have more than another one, first, by as much as a copy has, or by so many errors more or less.
func (b bench) copied(errors, first, fan int) bool {
	for measure, c := range b.Copy {
		l, more := b.gauged(measure, first, fan), errors*b.Off[measure]
		if !span.Within(c.Low-more, c.High+more, l[1]-l[0]) {
			return false
		}
	}
	return true
}

// fewestWrong returns the fewest measures of fans that must be wrong: of several such lists the smallest one. Right reports whether all is well with a measure if it was taken wrong of a set of fans, as it is if it was of all.
func (b bench) fewestWrong(right func(measure, wrong int) bool) []api.TwinSlip {
	var slips []api.TwinSlip
	// No measure has to do with another one: so the fewest of all are the fewest of each.
	for measure := range b.measures() {
		fans, _ := sets.Fewest(len(b.fans), func(set int) bool { return right(measure, set) })
		for _, fan := range fans {
			slips = append(slips, api.TwinSlip{Measure: measure, Fan: fan})
		}
	}
	return slips
}
