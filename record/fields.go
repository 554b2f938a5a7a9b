package record

import (
	"cmp"

	"quota/api"
)

const (
	lastWhere = 30 // the last slot of a page of counters
	lastSums  = 83 // the last slot of a page of sums
)

// fields: those that a kind's record has beside its Kind and its LSN.
type fields struct {
	tx, prev bool
	counter  bool // which one it is: Where, Sums, and its ID
	first    bool // how it begins: its Group, Bounds and Value
	delta    bool
	points   bool
}

// fieldsOf falls through the kinds that belong to a transaction: each has all that the one below it has, and more.
func fieldsOf(k api.Kind) fields {
	var has fields
	switch k {
	case api.Checkpoint:
		has.points = true
	case api.Create:
		has.counter, has.first = true, true
	case api.Add, api.Undo:
		has.counter, has.delta = true, true
		fallthrough
	case api.Commit, api.Abort, api.End:
		has.prev = true
		fallthrough
	case api.Begin:
		has.tx = true
	}
	return has
}

// mayBe: is every field that the record's Kind has in its bounds, and every other one zero?
func mayBe(r api.Record) bool {
	has := fieldsOf(r.Kind)
	return from(0, r.LSN, api.MaxLSN) && ahead(r.Prev, r.LSN) &&
		oneOf(has.tx, r.Tx, api.MaxTx) &&
		oneOf(has.prev, r.Prev, api.MaxLSN) &&
		slotsMayBe(has.counter, r.Where, r.Sums) &&
		oneOf(has.counter, r.Counter.ID, api.MaxCounter) &&
		firstMayBe(has.first, r.Counter) &&
		(has.delta || r.Delta == 0) &&
		pointsMayBe(has.points, r.Points, r.LSN)
}

func from[T cmp.Ordered](least, n, most T) bool { return least <= n && n <= most }

// oneOf: a number from 1 to most, or none.
func oneOf(has bool, n, most int) bool {
	if !has {
		return n == 0
	}
	return from(1, n, most)
}

// ahead: may record n stand ahead of record lsn? Of a record whose number is not known yet nothing is asked.
func ahead(n, lsn int) bool { return lsn == 0 || n < lsn }

func slotsMayBe(has bool, where, sums api.Slot) bool {
	if !has {
		return where == api.Slot{} && sums == api.Slot{}
	}
	return slotMayBe(where, lastWhere) && slotMayBe(sums, lastSums) && where.Page != sums.Page
}

func slotMayBe(s api.Slot, last int) bool {
	return from(0, s.Page, api.MaxPages-1) && from(0, s.Index, last)
}

// firstMayBe need not ask whether Lo is at most Hi: else no value lies between them.
func firstMayBe(has bool, c api.Counter) bool {
	if !has {
		return c == api.Counter{ID: c.ID}
	}
	return from(1, c.Group, api.MaxGroup) && from(c.Bounds.Lo, c.Value, c.Bounds.Hi)
}

func pointsMayBe(has bool, p api.Points, lsn int) bool {
	if !has {
		return p.Next == 0 && len(p.Live) == 0 && len(p.Dirty) == 0
	}
	return from(1, p.Next, api.MaxTx+1) && liveMayBe(p.Live, p.Next, lsn) && dirtyMayBe(p.Dirty, lsn)
}

func liveMayBe(list []api.Live, next, lsn int) bool {
	if len(list) > api.MaxLive {
		return false
	}
	least := 1
	for _, l := range list {
		if !from(least, l.Tx, next-1) || !recordMayBe(l.Last, lsn) || l.Committed && l.Undoing {
			return false
		}
		least = l.Tx + 1
	}
	return true
}

func dirtyMayBe(list []api.Dirty, lsn int) bool {
	if len(list) > api.MaxFrames {
		return false
	}
	least := 0
	for _, d := range list {
		if !from(least, d.Page, api.MaxPages-1) || !recordMayBe(d.Since, lsn) {
			return false
		}
		least = d.Page + 1
	}
	return true
}

// recordMayBe: may a checkpoint that is record lsn speak of record n?
func recordMayBe(n, lsn int) bool { return from(1, n, api.MaxLSN) && ahead(n, lsn) }
