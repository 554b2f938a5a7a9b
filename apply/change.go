package apply

import (
	"quota/api"
	"quota/interval"
	"quota/page"
)

// change: what a record makes of a number.
type change func(n int64) (int64, api.Errno)

// changeOf: the same of a counter's value and of its group's sum, so that the sum stays that of the values.
func changeOf(r api.Record) change {
	switch r.Kind {
	case api.Create:
		return func(n int64) (int64, api.Errno) { return interval.Add(n, r.Counter.Value) }
	case api.Add:
		return func(n int64) (int64, api.Errno) { return interval.Add(n, r.Delta) }
	}
	// Not an Add of the opposite, since the least delta has none.
	return func(n int64) (int64, api.Errno) { return interval.Sub(n, r.Delta) }
}

// changePage: of a record's page that is older than the record. With an error the page may be half changed.
func changePage(p *page.Page, r api.Record) api.Errno {
	if p.Number == r.Where.Page {
		return changeCounter(p, r, changeOf(r))
	}
	return changeSum(p, r, changeOf(r))
}

func changeCounter(p *page.Page, r api.Record, f change) api.Errno {
	switch {
	case !isCountersSlot(*p, r):
		return api.ErrSlot
	case r.Kind == api.Create:
		p.Counters = append(p.Counters, r.Counter)
		return api.OK
	}
	return turn(&p.Counters[r.Where.Index].Value, f)
}

// changeSum: a group that was not there is one with the sum 0 ahead of the record.
func changeSum(p *page.Page, r api.Record, f change) api.Errno {
	at := r.Sums.Index
	if !isSumsSlot(*p, r) {
		return api.ErrSlot
	}
	if at == len(p.Groups) {
		p.Groups = append(p.Groups, api.Group{ID: r.Counter.Group})
	}
	return turn(&p.Groups[at].Sum, f)
}

func turn(n *int64, f change) api.Errno {
	v, e := f(*n)
	if e == api.OK {
		*n = v
	}
	return e
}

// isCountersSlot: whether the record's counter stands in the slot Where, or, of a Create, would stand there.
func isCountersSlot(p page.Page, r api.Record) bool {
	at, count := r.Where.Index, len(p.Counters)
	switch {
	case len(p.Groups) > 0:
		return false
	case r.Kind == api.Create:
		return at == count && count < page.Counters
	}
	return 0 <= at && at < count && p.Counters[at].ID == r.Counter.ID
}

// isSumsSlot: whether the record's group stands in the slot Sums, or, of a Create, would stand there. Records of other kinds don't name their group, so that any may stand there.
func isSumsSlot(p page.Page, r api.Record) bool {
	at, count := r.Sums.Index, len(p.Groups)
	there := 0 <= at && at < count
	switch {
	case len(p.Counters) > 0:
		return false
	case r.Kind != api.Create:
		return there
	case there:
		return p.Groups[at].ID == r.Counter.Group
	}
	return at == count && count < page.Groups
}
