package registry

import "quota/api"

// So many stand in one page.
const (
	countersAPage = 31
	groupsAPage   = 84
)

// counterSlot: of counter number k, from 0 on, by the order in which they came.
func counterSlot(k int) api.Slot {
	return api.Slot{Page: k / countersAPage, Index: k % countersAPage}
}

// groupSlot: likewise, but from the last page back, so that counters and sums share what is free between them.
func groupSlot(pages, k int) api.Slot {
	return api.Slot{Page: pages - 1 - k/groupsAPage, Index: k % groupsAPage}
}

// hasRoom: whole pages are counted, since no page is of both.
func hasRoom(pages, counters, groups int) bool {
	return pagesFor(counters, countersAPage)+pagesFor(groups, groupsAPage) <= pages
}

func pagesFor(n, each int) int { return (n + each - 1) / each }
