package analysis

import "quota/api"

// since: by a page's number, the record since which it is dirty; 0: it is not, as there is no such record.
type since [api.MaxPages]int

// mark: a page that is dirty already stays so since its earlier record.
func (s *since) mark(page, lsn int) {
	if s[page] == 0 {
		s[page] = lsn
	}
}

// told: the dirty pages, by number.
func (s *since) told() []api.Dirty {
	var out []api.Dirty
	for page, lsn := range s {
		if lsn != 0 {
			out = append(out, api.Dirty{Page: page, Since: lsn})
		}
	}
	return out
}

// least: from which record on redo must go; 0, if no page is dirty.
func (s *since) least() int {
	out := 0
	for _, lsn := range s {
		if lsn != 0 && (out == 0 || lsn < out) {
			out = lsn
		}
	}
	return out
}
