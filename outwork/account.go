package outwork

import (
	"panache/api"
	"panache/span"
)

// account is what can have gone through the hands of one worker of one stuff, in true grains: each from the least to the most, whatever the others are.
type account struct {
	out, back, inFans api.Span
	thousandths       int // how many of those of out can be lost
}

// loss returns how much of a weight can be lost.
func loss(weight, thousandths int) int { return weight * thousandths / 1000 }

// most returns what the worker has at home at most. If it is below 0, no truth explains it.
func (a account) most() int { return a.out.High - a.back.Low - a.inFans.Low }

// home returns what the worker can have at home.
func (a account) home() api.Span {
	// Of a grain more no more than a grain more is lost, so the least that is left is that of the least that was given out.
	left := a.out.Low - loss(a.out.Low, a.thousandths)
	return api.Span{Low: max(0, left-a.back.High-a.inFans.High), High: a.most()}
}

// fans returns what can lie in the fans that the worker brought.
func (a account) fans() api.Span {
	return api.Span{Low: a.inFans.Low, High: min(a.inFans.High, a.out.High-a.back.Low)}
}

// lost returns what the worker can have lost.
func (a account) lost() api.Span {
	return api.Span{High: min(loss(a.out.High, a.thousandths), a.most())}
}

// account returns the account of a worker and a stuff.
func (o office) account(worker, stuff int) account {
	a := account{thousandths: o.Lost[stuff]}
	for k, x := range o.book {
		switch {
		case x.Worker != worker:
		case x.Kind == api.OutworkDone: // fans take of all stuffs
			a.inFans = span.Sum(a.inFans, o.taken(k, stuff))
		case x.Stuff != stuff:
		case x.Kind == api.OutworkOut:
			a.out = span.Sum(a.out, o.weighed(k))
		case x.Kind == api.OutworkBack:
			a.back = span.Sum(a.back, o.weighed(k))
		}
	}
	return a
}

// weighed returns what the true weight of an entry can be.
func (o office) weighed(entry int) api.Span {
	shown := o.shown(entry)
	return api.Span{Low: max(0, shown.Low-o.Scales), High: shown.High + o.Scales}
}

// taken returns what can lie of a stuff in the fans of an entry.
func (o office) taken(entry, stuff int) api.Span {
	shown, each := o.shown(entry), o.Takes[stuff]
	return api.Span{Low: shown.Low * each.Low, High: shown.High * each.High}
}
