package audit

import (
	"slices"

	"quota/api"
	"quota/log"
	"quota/master"
	"quota/page"
	"quota/sectors"
	"quota/twin"
)

// twinAt: the twin's first sector, behind the master's two.
const twinAt = 2

// step: one of those by which an image is looked at; it is handed the report so far, and puts there what a layer below answers.
type step func(r *Report) api.Errno

// chain: the steps one behind the other, up to the first that can't go.
func chain(steps ...step) (Report, api.Errno) {
	var r Report
	for _, do := range steps {
		if fault := do(&r); fault != api.OK {
			return Report{}, fault
		}
	}
	return r, api.OK
}

// look: the report, and the pages that aren't torn, by number.
func look(image []byte) (r Report, pages []page.Page, fault api.Errno) {
	var disk *sectors.Device
	r, fault = chain(
		func(*Report) (fault api.Errno) {
			disk, fault = sectors.Load(image)
			return fault
		},
		func(r *Report) (fault api.Errno) {
			r.Shape, r.Point, fault = layout(disk)
			return fault
		},
		func(r *Report) api.Errno {
			did, err := twin.Finish(disk, twinAt)
			r.Finish = did
			return api.Code(err)
		},
		func(r *Report) (fault api.Errno) {
			r.Records, fault = logged(disk, r.Shape)
			return fault
		},
		func(r *Report) (fault api.Errno) {
			pages, r.Torn, fault = whole(disk, r.Shape)
			return fault
		},
		func(r *Report) api.Errno {
			r.Ahead = ahead(pages, len(r.Records))
			r.Counters, r.Groups = together(pages)
			return api.OK
		},
	)
	return r, pages, fault
}

func layout(disk *sectors.Device) (api.Shape, int, api.Errno) {
	shape, point, err := master.Open(disk)
	return shape, point, api.Code(err)
}

// logged: all records of the log.
func logged(disk *sectors.Device, shape api.Shape) ([]api.Record, api.Errno) {
	first, fault := master.Log(shape)
	if fault != api.OK {
		return nil, fault
	}
	l, err := log.Open(disk, first, shape.Log)
	if err != nil {
		return nil, api.Code(err)
	}
	list := make([]api.Record, l.Last())
	for k := range list {
		if list[k], fault = l.Get(k + 1); fault != api.OK {
			return nil, fault
		}
	}
	return list, api.OK
}

// whole: the pages that can be read, and the numbers of the others.
func whole(disk *sectors.Device, shape api.Shape) (pages []page.Page, torn []int, fault api.Errno) {
	for n := range shape.Pages {
		home, fault := master.Home(shape, n)
		if fault != api.OK {
			return nil, nil, fault
		}
		b, err := twin.Read(disk, home)
		if err != nil {
			return nil, nil, api.Code(err)
		}
		if p, fault := page.Decode(b, n); fault == api.OK {
			pages = append(pages, p)
		} else {
			torn = append(torn, n)
		}
	}
	return pages, torn, api.OK
}

// ahead: the pages that a record has changed which the log, with so many records, doesn't have.
func ahead(pages []page.Page, records int) []int {
	var list []int
	for _, p := range pages {
		if p.LSN > records {
			list = append(list, p.Number)
		}
	}
	return list
}

// together: what stands in all pages; what has one number stays as the pages have it, so the sorts are stable.
func together(pages []page.Page) (counters []api.Counter, groups []api.Group) {
	for _, p := range pages {
		counters = append(counters, p.Counters...)
		groups = append(groups, p.Groups...)
	}
	slices.SortStableFunc(counters, func(a, b api.Counter) int { return a.ID - b.ID })
	slices.SortStableFunc(groups, func(a, b api.Group) int { return a.ID - b.ID })
	return counters, groups
}
