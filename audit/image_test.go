package audit_test

import (
	"testing"

	"quota/api"
	"quota/audit"
	"quota/master"
	"quota/page"
	"quota/record"
	"quota/sectors"
)

// hand puts an image together, byte by byte.
type hand struct {
	t     *testing.T
	shape api.Shape
	image []byte
}

// blank: as master.Format leaves it.
func blank(t *testing.T, shape api.Shape) *hand {
	t.Helper()
	need, _ := master.Need(shape)
	d, e := sectors.New(need)
	if e != api.OK {
		t.Fatal(e)
	}
	if err := master.Format(d, shape); err != nil {
		t.Fatal(err)
	}
	return &hand{t, shape, d.Image()}
}

func (h *hand) sector(i int) []byte { return h.image[i*api.SectorSize : (i+1)*api.SectorSize] }

// logAt: the sector of a record.
func (h *hand) logAt(lsn int) []byte { return h.sector(5 + 2*h.shape.Pages + lsn - 1) }

// slot: one of the master's, with the shape.
func (h *hand) slot(stamp, point int) {
	s := h.sector(stamp % 2)
	clear(s)
	s[0], s[1], s[9], s[10], s[11], s[12], s[511] = 0x4d, byte(stamp), byte(h.shape.Pages), byte(h.shape.Log), byte(h.shape.Log>>8), byte(h.shape.Frames), byte(stamp)
	s[13], s[14] = byte(point), byte(point>>8)
}

// marker: one that stands, and the page beside it.
func (h *hand) marker(home int, b []byte) {
	m := h.sector(2)
	clear(m)
	m[0], m[1], m[511] = byte(home), byte(home>>8), 0xa5
	copy(h.image[3*api.SectorSize:], b)
}

// raw: a record's sector around any bytes.
func (h *hand) raw(lsn int, b []byte) {
	s := h.logAt(lsn)
	clear(s)
	s[0], s[1], s[2], s[5], s[511] = 0x6c, byte(lsn), byte(lsn>>8), byte(len(b)), 0xa5
	copy(s[7:], b)
}

// log: the records, from LSN 1 on.
func (h *hand) log(records ...api.Record) {
	h.t.Helper()
	for k, r := range records {
		b, e := record.Encode(r)
		if e != api.OK {
			h.t.Fatalf("%v is no record: %d", r, e)
		}
		h.raw(k+1, b)
	}
}

// bytes: of a page.
func (h *hand) bytes(p page.Page) []byte {
	h.t.Helper()
	b, e := page.Encode(p)
	if e != api.OK {
		h.t.Fatalf("%v is no page: %d", p, e)
	}
	return b
}

func (h *hand) pages(list ...page.Page) {
	h.t.Helper()
	for _, p := range list {
		copy(h.image[(5+2*p.Number)*api.SectorSize:], h.bytes(p))
	}
}

// look: the report, which must come.
func (h *hand) look() audit.Report {
	h.t.Helper()
	r, e := audit.Look(h.image)
	if e != api.OK {
		h.t.Fatalf("P22.2: Look answers %d", e)
	}
	return r
}

// wantClean: with the reason.
func (h *hand) wantClean(want bool, why string) {
	h.t.Helper()
	if got, e := audit.Clean(h.image); got != want || e != api.OK {
		h.t.Errorf("P22.4: %s: Clean = %v, %d, want %v", why, got, e, want)
	}
}

const (
	most  = 1<<63 - 1
	least = -1 << 63
)

func counter(id, group int, lo, hi, value int64) api.Counter {
	return api.Counter{ID: id, Group: group, Bounds: api.Range{Lo: lo, Hi: hi}, Value: value}
}

func sum(id int, value int64) api.Group { return api.Group{ID: id, Sum: value} }

func begin(tx int) api.Record { return api.Record{Kind: api.Begin, Tx: tx} }

// create: the counter's slot, its sum's slot.
func create(where, sums api.Slot, c api.Counter) api.Record {
	return api.Record{Kind: api.Create, Where: where, Sums: sums, Counter: c}
}

func add(tx, prev int, where, sums api.Slot, id int, delta int64) api.Record {
	return api.Record{Kind: api.Add, Tx: tx, Prev: prev, Where: where, Sums: sums, Counter: api.Counter{ID: id}, Delta: delta}
}

func undo(tx, prev int, where, sums api.Slot, id int, delta int64) api.Record {
	r := add(tx, prev, where, sums, id, delta)
	r.Kind = api.Undo
	return r
}

func end(kind api.Kind, tx, prev int) api.Record { return api.Record{Kind: kind, Tx: tx, Prev: prev} }

func slot(page, index int) api.Slot { return api.Slot{Page: page, Index: index} }

func ofCounters(number, lsn int, list ...api.Counter) page.Page {
	return page.Page{Number: number, LSN: lsn, Counters: list}
}

func ofSums(number, lsn int, list ...api.Group) page.Page {
	return page.Page{Number: number, LSN: lsn, Groups: list}
}
