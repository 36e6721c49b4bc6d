package round_test

import (
	"math/rand"
	"slices"
	"testing"

	"panache/api"
	"panache/round"
)

// hull returns the span from the least to the greatest number of a list that is not empty.
func hull(l []int) api.Span { return to(slices.Min(l), slices.Max(l)) }

// P10.2, P10.3, P10.4, P10.10 and P10.12 against all truths of all rounds.
func TestRoundsOfAllTruths(t *testing.T) {
	r := rand.New(rand.NewSource(1))
	counts := map[string]int{}
	for range 500 {
		task := anyTask(r, oneOf(r, tiny, tiny, small))
		for order := range ordersOf(len(task.Places)) {
			var all []drive
			for minutes := range truths(task, order) {
				all = append(all, driven(task, order, minutes))
			}
			timesAsKnown(t, task, order, all)
			faultAsKnown(t, task, order, all, counts)
			whereAsKnown(t, task, order, all, counts)
		}
	}
	if counts["sure"] < 500 || counts["doubtful"] < 100 || counts["served"] < 500 || counts["full"] < 200 || counts["later"] < 200 || counts["home late"] < 50 || counts["several"] < 500 || counts["nowhere"] < 500 {
		t.Error(counts)
	}
}

// timesAsKnown checks when a carrier comes and what is on the cart, by all truths.
func timesAsKnown(t *testing.T, task api.RoundTask, order []int, all []drive) {
	times, e := round.Times(task, order)
	loads, f := round.Load(task, order)
	if e != api.OK || f != api.OK || !slices.Equal(loads, all[0].loads) {
		t.Fatal(task, order, e, f, loads)
	}
	if len(order) == 0 {
		if !slices.Equal(times, spans(at(task.Leaves))) {
			t.Fatal(task, order, times)
		}
		return
	}
	for k := range len(order) + 1 {
		var found []int
		for _, d := range all {
			found = append(found, d.comes[k])
		}
		if len(times) != len(order)+1 || times[k] != hull(found) {
			t.Fatal(task, order, times, k, hull(found))
		}
	}
	fetched := 0
	for _, p := range order {
		fetched += task.Places[p-1].Fetched
	}
	if loads[len(order)] != fetched {
		t.Fatal(task, order, loads)
	}
}

// faultAsKnown checks where a round goes wrong, by all truths.
func faultAsKnown(t *testing.T, task api.RoundTask, order []int, all []drive, counts map[string]int) {
	found, surely, e := round.Fault(task, order)
	first, wrong := -1, 0
	for k := 0; k < roadsOf(order) && first < 0; k++ {
		wrong = 0
		for _, d := range all {
			if d.tooLate(task, order, k) || d.loads[k] > task.Holds {
				wrong++
			}
		}
		if wrong > 0 {
			first = k
		}
	}
	if first < 0 {
		counts["served"]++
		if found != 0 || surely || e != api.ErrNone || !surelyServes(task, order) {
			t.Fatal(task, order, found, surely, e)
		}
		return
	}
	if found != first || surely != (wrong == len(all)) || e != api.OK || surelyServes(task, order) {
		t.Fatal(task, order, found, surely, e, first, wrong, len(all))
	}
	if surely {
		counts["sure"]++
	} else {
		counts["doubtful"]++
	}
	if all[0].loads[first] > task.Holds {
		counts["full"]++
	} else if first == len(order) {
		counts["home late"]++
	}
	if first > 0 {
		counts["later"]++
	}
	for _, d := range all {
		if surely && d.wrongRoad(task, order) < 0 {
			t.Fatal(task, order, d)
		}
	}
}

// whereAsKnown checks on which roads a carrier is at each time, by all truths.
func whereAsKnown(t *testing.T, task api.RoundTask, order []int, all []drive, counts map[string]int) {
	end := 0
	for _, d := range all {
		end = max(end, d.backAt(task))
	}
	for time := 0; time <= end+1; time++ {
		var want []int
		for k := range roadsOf(order) {
			if slices.ContainsFunc(all, func(d drive) bool { return d.leaves[k] <= time && time < d.comes[k] }) {
				want = append(want, k)
			}
		}
		if roads, e := round.Where(task, order, time); !slices.Equal(roads, want) || e != api.OK {
			t.Fatal(task, order, time, roads, e, want)
		}
		switch {
		case len(want) > 1:
			counts["several"]++
		case len(want) == 0 && len(order) > 0:
			counts["nowhere"]++
		}
	}
}

// P10.5, P10.6, P10.7, P10.8, P10.13 and P10.14 against all truths of all rounds.
func TestTasksOfAllTruths(t *testing.T) {
	r := rand.New(rand.NewSource(2))
	counts := map[string]int{}
	for range 2500 {
		task := anyTask(r, oneOf(r, tiny, small))
		good := servedOf(task)
		bestAsKnown(t, task, good, counts)
		mostAsKnown(t, task, good, counts)
		daysAsKnown(t, task, good, counts)
	}
	if counts["best"] < 100 || counts["tie"] < 20 || counts["no best"] < 100 || counts["some"] < 100 || counts["none"] < 20 || counts["another"] < 50 || counts["pair"] < 30 || counts["alone"] < 100 || counts["three"] < 5 || counts["by way"] < 20 || counts["two days"] < 30 || counts["three days"] < 5 || counts["no days"] < 100 {
		t.Error(counts)
	}
}

// bestAsKnown checks the round that is back soonest, by all that serve all outworkers.
func bestAsKnown(t *testing.T, task api.RoundTask, good served, counts map[string]int) {
	var want []int
	soonest, tie := -1, false
	for _, order := range good {
		if len(order) < len(task.Places) {
			continue
		}
		back := latestBack(task, order)
		tie = tie && back >= soonest || back == soonest
		if soonest < 0 || back < soonest || back == soonest && slices.Compare(order, want) < 0 {
			want, soonest = order, back
		}
	}
	best, e := round.Best(task)
	if soonest < 0 {
		counts["no best"]++
		if len(best) != 0 || e != api.ErrState {
			t.Fatal(task, best, e)
		}
		return
	}
	counts["best"]++
	if tie {
		counts["tie"]++
	}
	if !slices.Equal(best, want) || e != api.OK {
		t.Fatal(task, best, e, want)
	}
}

// mostAsKnown checks the most outworkers that are served, and the fewest that are not, by all rounds that serve.
func mostAsKnown(t *testing.T, task api.RoundTask, good served, counts map[string]int) {
	var most, fewest []int
	against := false
	for _, some := range someOf(len(task.Places)) {
		can := good.serve(some)
		if can && len(some) > len(most) {
			most = some
		}
		if !can && !against {
			fewest, against = some, true
		}
	}
	if good.serve(numbersTo(len(task.Places))) {
		if against {
			counts["by way"]++
		}
		fewest, against = nil, false
	}
	if l, e := round.Most(task); !slices.Equal(l, most) || e != api.OK {
		t.Fatal(task, l, e, most)
	}
	l, e := round.Against(task)
	if !slices.Equal(l, fewest) || against && e != api.OK || !against && e != api.ErrNone {
		t.Fatal(task, l, e, fewest)
	}
	switch {
	case len(most) == 0:
		counts["none"]++
	case len(most) < len(task.Places):
		counts["some"]++
		if most[0] > 1 {
			counts["another"]++
		}
	}
	counts[[]string{"", "alone", "pair", "three", ""}[len(fewest)]]++
}

// numbersTo returns all of so many outworkers.
func numbersTo(many int) []int {
	var l []int
	for p := 1; p <= many; p++ {
		l = append(l, p)
	}
	return l
}

// daysAsKnown checks the days of all outworkers, by all lists of days.
func daysAsKnown(t *testing.T, task api.RoundTask, good served, counts map[string]int) {
	var want []int
	found := false
	for days := range daysOf(len(task.Places)) {
		unserved := func(day int) bool { return !good.serve(onDay(days, day)) }
		if slices.ContainsFunc(days, unserved) {
			continue
		}
		if !found || distinct(days) < distinct(want) || distinct(days) == distinct(want) && slices.Compare(days, want) < 0 {
			want, found = slices.Clone(days), true
		}
	}
	days, e := round.Days(task)
	if !found {
		counts["no days"]++
		if len(days) != 0 || e != api.ErrState {
			t.Fatal(task, days, e)
		}
		return
	}
	if !slices.Equal(days, want) || e != api.OK {
		t.Fatal(task, days, e, want)
	}
	counts[[]string{"", "", "two days", "three days", "three days"}[distinct(want)]]++
}

// P10.9 and P10.11 against all truths of all rounds.
func TestChangesOfAllTruths(t *testing.T) {
	r := rand.New(rand.NewSource(3))
	counts := map[string]int{}
	for range 500 {
		task := anyTask(r, oneOf(r, tiny, tiny, size{places: 3, minutes: 5, wide: 1, time: 120, dozens: 1}))
		task.Holds = max(task.Holds, oneOf(r, 0, api.MaxRoundHolds))
		for order := range ordersOf(len(task.Places)) {
			lateAsKnown(t, task, order, counts)
			worthAsKnown(t, task, order, counts)
		}
	}
	if counts["late"] < 200 || counts["in time"] < 20 || counts["not"] < 200 || counts["earlier"] < 200 || counts["later"] < 20 || counts["same"] < 20 || counts["another"] < 100 {
		t.Error(counts)
	}
}

// lateAsKnown checks by how much later a cart can leave, by trying all minutes.
func lateAsKnown(t *testing.T, task api.RoundTask, order []int, counts map[string]int) {
	want := -1
	for late := 0; task.Leaves+late <= task.Back; late++ {
		if surelyServes(with(task, leaving(task.Leaves+late, task.Back)), order) {
			want = late
		}
	}
	minutes, e := round.Late(task, order)
	if want < 0 {
		counts["not"]++
		if minutes != 0 || e != api.ErrState {
			t.Fatal(task, order, minutes, e)
		}
		return
	}
	if minutes != want || e != api.OK {
		t.Fatal(task, order, minutes, e, want)
	}
	if want == 0 {
		counts["in time"]++
	} else {
		counts["late"]++
	}
}

// worthAsKnown checks without whom a round is back soonest, by all truths without each.
func worthAsKnown(t *testing.T, task api.RoundTask, order []int, counts map[string]int) {
	p, minutes, e := round.Worth(task, order)
	if len(order) == 0 {
		if p != 0 || minutes != 0 || e != api.ErrNone {
			t.Fatal(task, order, p, minutes, e)
		}
		return
	}
	wantPlace, wantBack := 0, 0
	for k, q := range order {
		back := latestBack(task, slices.Concat(order[:k], order[k+1:]))
		if k == 0 || back < wantBack {
			wantPlace, wantBack = q, back
		}
	}
	want := latestBack(task, order) - wantBack
	if p != wantPlace || minutes != want || e != api.OK {
		t.Fatal(task, order, p, minutes, e, wantPlace, want)
	}
	switch {
	case want > 0:
		counts["earlier"]++
	case want < 0:
		counts["later"]++
	default:
		counts["same"]++
	}
	if p != order[0] {
		counts["another"]++
	}
}

// P10.12: truths of as many outworkers as there may be.
func TestTruthsOfLargeTasks(t *testing.T) {
	r := rand.New(rand.NewSource(4))
	served, sure, doubtful := 0, 0, 0
	for range 4000 {
		task := anyTask(r, large)
		task.Holds = max(task.Holds, oneOf(r, 0, api.MaxRoundHolds))
		order := anyOrder(r, task)
		times, _ := round.Times(task, order)
		number, surely, fault := round.Fault(task, order)
		inTruth := func(choose func(s api.Span) int) drive { return driven(task, order, truthOf(task, order, choose)) }
		least, most := inTruth(func(s api.Span) int { return s.Low }), inTruth(func(s api.Span) int { return s.High })
		for k := range roadsOf(order) {
			if times[k] != to(least.comes[k], most.comes[k]) {
				t.Fatal(task, order, times, least, most)
			}
		}
		for range 10 {
			d := inTruth(func(s api.Span) int { return between(r, s.Low, s.High) })
			for k := range roadsOf(order) {
				if d.comes[k] < times[k].Low || d.comes[k] > times[k].High {
					t.Fatal(task, order, times, d)
				}
			}
			wrong := d.wrongRoad(task, order)
			if fault == api.ErrNone && wrong >= 0 || surely && wrong != number || fault == api.OK && wrong >= 0 && wrong < number {
				t.Fatal(task, order, number, surely, fault, d)
			}
			whereInTruth(t, task, order, d, between(r, 0, d.backAt(task)))
		}
		switch {
		case fault == api.ErrNone:
			served++
		case surely:
			sure++
		default:
			doubtful++
		}
	}
	if served < 300 || sure < 100 || doubtful < 100 {
		t.Error(served, sure, doubtful)
	}
}

// whereInTruth checks that a carrier is on one road at most, and on one of Where.
func whereInTruth(t *testing.T, task api.RoundTask, order []int, d drive, time int) {
	roads, e := round.Where(task, order, time)
	many := 0
	for k := range roadsOf(order) {
		if d.leaves[k] <= time && time < d.comes[k] {
			many++
			if !slices.Contains(roads, k) {
				t.Fatal(task, order, time, roads, d)
			}
		}
	}
	if many > 1 || e != api.OK {
		t.Fatal(task, order, time, roads, e, d)
	}
}

// P10.13 and P10.14 for as many outworkers as there may be.
func TestLargeTasks(t *testing.T) {
	r := rand.New(rand.NewSource(5))
	counts := map[string]int{}
	for range 250 {
		task := anyTask(r, large)
		task.Holds = max(task.Holds, oneOf(r, 0, api.MaxRoundHolds, api.MaxRoundHolds))
		all := numbersTo(len(task.Places))
		best, e := round.Best(task)
		most, f := round.Most(task)
		against, g := round.Against(task)
		if f != api.OK || (e == api.OK) != slices.Equal(most, all) || (e == api.OK) != (g == api.ErrNone) {
			t.Fatal(task, best, e, most, f, against, g)
		}
		if e == api.OK {
			counts["best"]++
			soonestOfTried(t, r, task, best)
		} else {
			counts["against"]++
			againstAsTold(t, r, task, against)
		}
		daysAsTold(t, r, task, most, counts)
		for range 20 {
			if order := anyOrder(r, task); servesBy(task, order) && (len(order) > len(most) || len(order) == len(most) && slices.Compare(sorted(order), most) < 0) {
				t.Fatal(task, most, order)
			}
		}
	}
	if counts["best"] < 50 || counts["against"] < 50 || counts["days"] < 20 || counts["no days"] < 20 {
		t.Error(counts)
	}
}

// soonestOfTried checks that no round that is tried, and that serves all, is back sooner than the best one.
func soonestOfTried(t *testing.T, r *rand.Rand, task api.RoundTask, best []int) {
	last := func(order []int) int {
		times, _ := round.Times(task, order)
		return times[len(times)-1].High
	}
	if !servesBy(task, best) || len(best) != len(task.Places) {
		t.Fatal(task, best)
	}
	for range 50 {
		var order []int
		for _, k := range r.Perm(len(task.Places)) {
			order = append(order, k+1)
		}
		if servesBy(task, order) && (last(order) < last(best) || last(order) == last(best) && slices.Compare(order, best) < 0) {
			t.Fatal(task, best, order)
		}
	}
}

// only returns a task with some of its outworkers, who have their places in the list then.
func only(task api.RoundTask, some []int) api.RoundTask {
	left := task
	left.Places, left.Minutes = nil, nil
	all := slices.Concat(numbers(0), some)
	for _, from := range all {
		var row []api.Span
		for _, dest := range all {
			row = append(row, task.Minutes[from][dest])
		}
		left.Minutes = append(left.Minutes, row)
		if from > 0 {
			left.Places = append(left.Places, task.Places[from-1])
		}
	}
	return left
}

// againstAsTold checks that no round serves some outworkers together, but one serves the others without any one of them.
func againstAsTold(t *testing.T, r *rand.Rand, task api.RoundTask, against []int) {
	if !slices.IsSorted(against) || len(against) == 0 {
		t.Fatal(task, against)
	}
	for range 50 {
		var order []int
		for _, k := range r.Perm(len(against)) {
			order = append(order, against[k])
		}
		if servesBy(task, order) {
			t.Fatal(task, against, order)
		}
	}
	for k := range against {
		if _, e := round.Best(only(task, slices.Concat(against[:k], against[k+1:]))); e != api.OK {
			t.Fatal(task, against, k)
		}
	}
}

// daysAsTold checks that each day has a round, and that there are not more days than there may be.
func daysAsTold(t *testing.T, r *rand.Rand, task api.RoundTask, most []int, counts map[string]int) {
	days, e := round.Days(task)
	if e != api.OK {
		counts["no days"]++
		return
	}
	many := distinct(days)
	if many > 1 {
		counts["days"]++
	}
	if len(days) != len(task.Places) || many > len(days) || many*len(most) < len(days) {
		t.Fatal(task, days, most)
	}
	for day := range many {
		if some := onDay(days, day); len(some) == 0 {
			t.Fatal(task, days)
		} else if _, e := round.Best(only(task, some)); e != api.OK {
			t.Fatal(task, days, day)
		}
	}
	for range 50 {
		var other []int
		for range days {
			other = append(other, between(r, 0, many-1))
		}
		unserved := func(day int) bool {
			_, e := round.Best(only(task, onDay(other, day)))
			return e != api.OK
		}
		if distinct(other) == many && slices.Compare(other, days) >= 0 || slices.ContainsFunc(other, unserved) {
			continue
		}
		t.Fatal(task, days, other)
	}
}

// slower makes a road, a stop or the start of a task later at random. It stays valid.
func slower(r *rand.Rand, task api.RoundTask) api.RoundTask {
	task = copied(task)
	switch r.Intn(3) {
	case 0:
		from, dest := r.Intn(len(task.Minutes)), r.Intn(len(task.Minutes))
		if s := &task.Minutes[from][dest]; from != dest {
			*s = to(min(api.MaxRoundMinutes, s.Low+between(r, 0, 9)), min(api.MaxRoundMinutes, s.High+between(r, 9, 20)))
		}
	case 1:
		for k := range task.Places {
			task.Places[k].Stop = min(api.MaxRoundMinutes, task.Places[k].Stop+between(r, 0, 9))
		}
	default:
		task.Leaves = min(task.Back, task.Leaves+between(r, 0, 30))
	}
	return task
}

// P10.15: with slower roads, longer stops or a later start nothing is earlier, and by Late the round still serves.
func TestLater(t *testing.T) {
	r := rand.New(rand.NewSource(6))
	moved, same, late := 0, 0, 0
	for range 2000 {
		task := anyTask(r, large)
		task.Holds = max(task.Holds, oneOf(r, 0, api.MaxRoundHolds))
		order := anyOrder(r, task)
		before, _ := round.Times(task, order)
		after, e := round.Times(slower(r, task), order)
		if len(after) != len(before) || e != api.OK {
			t.Fatal(task, order, before, after, e)
		}
		for k := range before {
			if after[k].Low < before[k].Low || after[k].High < before[k].High {
				t.Fatal(task, order, before, after)
			}
		}
		if slices.Equal(before, after) {
			same++
		} else {
			moved++
		}
		minutes, e := round.Late(task, order)
		if (e == api.OK) != servesBy(task, order) {
			t.Fatal(task, order, minutes, e)
		}
		if e != api.OK {
			continue
		}
		late++
		if task.Leaves+minutes > task.Back || !servesBy(with(task, leaving(task.Leaves+minutes, task.Back)), order) {
			t.Fatal(task, order, minutes)
		}
		if task.Leaves+minutes+1 <= task.Back && servesBy(with(task, leaving(task.Leaves+minutes+1, task.Back)), order) {
			t.Fatal(task, order, minutes)
		}
	}
	if moved < 500 || same < 100 || late < 300 {
		t.Error(moved, same, late)
	}
}
