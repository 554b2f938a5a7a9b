package audit

import (
	"slices"

	"quota/api"
	"quota/apply"
	"quota/page"
)

// followsFrom: whether each page is what the records up to its LSN make of an empty one; the pages are all of the disk, by number. All are made anew side by side, so that the records are gone through once.
func followsFrom(records []api.Record, pages []page.Page) bool {
	made := make([]page.Page, len(pages))
	for n := range made {
		made[n].Number = n
	}
	for _, r := range records {
		for _, n := range apply.Pages(r) {
			if n >= len(pages) || r.LSN > pages[n].LSN {
				continue
			}
			p, _, fault := apply.Do(made[n], r)
			if fault != api.OK {
				return false
			}
			made[n] = p
		}
	}
	return slices.EqualFunc(made, pages, same)
}

func same(p, q page.Page) bool {
	return p.Number == q.Number && p.LSN == q.LSN && slices.Equal(p.Counters, q.Counters) && slices.Equal(p.Groups, q.Groups)
}
