package points

import "quota/api"

// gathering: since when each page of a list is dirty, by the page's number. One map serves several lists in turn.
type gathering map[int]int

// tidy: each page of the list once, by number, with the least Since that stands beside it.
func (g gathering) tidy(list []api.Dirty) []api.Dirty {
	clear(g)
	for _, d := range list {
		g.take(d)
	}
	return g.told()
}

func (g gathering) take(d api.Dirty) {
	since, there := g[d.Page]
	if !there || d.Since < since {
		g[d.Page] = d.Since
	}
}

// told asks for every number that a page may have: a map is gone through in no order.
func (g gathering) told() []api.Dirty {
	var out []api.Dirty
	for n := range api.MaxPages {
		if since, there := g[n]; there {
			out = append(out, api.Dirty{Page: n, Since: since})
		}
	}
	return out
}

// faultOf: of the first element that has one.
func faultOf(lists ...[]api.Dirty) api.Errno {
	for _, list := range lists {
		for _, d := range list {
			if e := mayBe(d); e != api.OK {
				return e
			}
		}
	}
	return api.OK
}

func mayBe(d api.Dirty) api.Errno {
	if d.Page < 0 || d.Page >= api.MaxPages {
		return api.ErrPlace
	}
	if d.Since < 1 || d.Since > api.MaxLSN {
		return api.ErrField
	}
	return api.OK
}
