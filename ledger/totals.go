package ledger

import (
	"quota/api"
	"quota/interval"
)

// totals: what a group comes to: its sum as it stands, and its worst case. Both are kept, so that no delta needs a look at all counters of the group; of a group that is not there yet they are zeros.
type totals struct {
	sum   int64
	worst api.Range
}

// gathered: of counters that nobody holds anything of. What the sum passes on its way is not asked.
func gathered(settled []int64) (totals, api.Errno) {
	sum, fault := interval.Sum(settled...)
	if fault != api.OK {
		return totals{}, fault
	}
	return totals{sum: sum, worst: api.Range{Lo: sum, Hi: sum}}, api.OK
}

// grown: a settled value more. The sum lies in the worst case, and so it fits if that does.
func (t totals) grown(value int64) (totals, api.Errno) {
	worst, fault := shifted(t.worst, value, value)
	if fault != api.OK {
		return totals{}, fault
	}
	return totals{sum: t.sum + value, worst: worst}, api.OK
}

// moved: the net in the old one's place. The sum is reckoned by way of the sum without the old net, which fits as the one with the new net does.
func (t totals) moved(old, net int64) (totals, api.Errno) {
	others := t.released(old)
	worst, fault := shifted(others.worst, min(net, 0), max(net, 0))
	if fault != api.OK {
		return totals{}, fault
	}
	return totals{sum: others.sum + net, worst: worst}, api.OK
}

// settled: this net comes for certain. Both ends are outcomes with it, and so they fit.
func (t totals) settled(net int64) totals {
	t.worst = api.Range{Lo: t.worst.Lo + max(net, 0), Hi: t.worst.Hi + min(net, 0)}
	return t
}

// released: this net is not there. All three are outcomes without it, and so they fit.
func (t totals) released(net int64) totals {
	return totals{
		sum:   t.sum - net,
		worst: api.Range{Lo: t.worst.Lo - min(net, 0), Hi: t.worst.Hi - max(net, 0)},
	}
}

// shifted: the range with its ends moved; ErrOverflow, if one of them leaves 64 bits.
func shifted(r api.Range, low, high int64) (api.Range, api.Errno) {
	lo, fault := interval.Add(r.Lo, low)
	if fault != api.OK {
		return api.Range{}, fault
	}
	hi, fault := interval.Add(r.Hi, high)
	if fault != api.OK {
		return api.Range{}, fault
	}
	return api.Range{Lo: lo, Hi: hi}, api.OK
}
