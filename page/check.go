package page

import (
	"cmp"

	"quota/api"
)

// check: what keeps a page from being a right one, in the order in which Encode tells it.
func check(p Page) api.Errno {
	switch {
	case !from(0, p.Number, api.MaxPages-1):
		return api.ErrPlace
	case len(p.Counters) > 0 && len(p.Groups) > 0:
		return api.ErrKind
	case len(p.Counters) > Counters || len(p.Groups) > Groups:
		return api.ErrFull
	case !from(0, p.LSN, api.MaxLSN) || isEmpty(p) != (p.LSN == 0):
		return api.ErrField
	}
	return checkSlots(p)
}

// checkHead: sum is the checksum that the bytes should have. It comes ahead of all that says what the page holds, since of spoilt bytes nothing is to be believed.
func checkHead(h head, number int, sum uint32) api.Errno {
	switch {
	case h.mark != mark:
		return api.ErrMark
	case h.kind != ofCounters && h.kind != ofGroups:
		return api.ErrKind
	case h.sum != uint64(sum):
		return api.ErrSum
	case h.number != uint64(number):
		return api.ErrPage
	case !from(1, h.count, most(h.kind)) || !from(1, h.lsn, api.MaxLSN):
		return api.ErrField
	}
	return api.OK
}

// most: how many a page of this kind has room for.
func most(kind uint64) uint64 {
	if kind == ofCounters {
		return Counters
	}
	return Groups
}

// checkSlots: of the first counter or group that is not right.
func checkSlots(p Page) api.Errno {
	for _, c := range p.Counters {
		if !from(1, c.ID, api.MaxCounter) || !from(1, c.Group, api.MaxGroup) {
			return api.ErrField
		}
		if c.Bounds.Lo > c.Bounds.Hi {
			return api.ErrRange
		}
	}
	for _, g := range p.Groups {
		if !from(1, g.ID, api.MaxGroup) {
			return api.ErrField
		}
	}
	return api.OK
}

func isEmpty(p Page) bool { return len(p.Counters) == 0 && len(p.Groups) == 0 }

func from[T cmp.Ordered](least, n, most T) bool { return least <= n && n <= most }
