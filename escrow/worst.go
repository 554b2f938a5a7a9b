package escrow

import (
	"quota/api"
	"quota/interval"
)

// weigh: the transaction's net and the worst cases as they would be behind the delta, or why it is refused.
func (e *Escrow) weigh(tx int, delta int64) (int64, api.Range, api.Errno) {
	if tx < 1 || tx > api.MaxTx {
		return 0, api.Range{}, api.ErrTx
	}
	held := e.nets[tx]
	net, over := interval.Add(held, delta)
	parts := []int64{net}
	if over != api.OK {
		// The bounds are asked first, of a net that is no number: its two parts have one sign, and so weigh as much as it would.
		parts = []int64{held, delta}
	}
	worst, beyond := reach(without(e.worst, held), parts)
	if beyond != api.OK || !interval.Within(worst, e.bounds) {
		return 0, api.Range{}, api.ErrBounds
	}
	if over != api.OK {
		return 0, api.Range{}, over
	}
	return net, worst, api.OK
}

// reach: how far the worst cases go with these parts of a net. ErrOverflow, if they leave 64 bits: whichever sum says so, one of the two ends is beyond them too.
func reach(others api.Range, parts []int64) (api.Range, api.Errno) {
	low, fault := interval.Worst(others.Lo, parts...)
	if fault != api.OK {
		return api.Range{}, fault
	}
	high, fault := interval.Worst(others.Hi, parts...)
	if fault != api.OK {
		return api.Range{}, fault
	}
	return api.Range{Lo: low.Lo, Hi: high.Hi}, api.OK
}

// without: the worst cases if this net is not there. Both ends are outcomes of the other holders, and so they fit.
func without(worst api.Range, net int64) api.Range {
	return api.Range{Lo: worst.Lo - min(net, 0), Hi: worst.Hi - max(net, 0)}
}

// with: the worst cases if this net is there for certain. Both ends are outcomes with it, and so they fit.
func with(worst api.Range, net int64) api.Range {
	return api.Range{Lo: worst.Lo + max(net, 0), Hi: worst.Hi + min(net, 0)}
}
