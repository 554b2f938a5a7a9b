package page_test

import (
	"bytes"
	"encoding/binary"
	"hash/crc32"
	"math"
	"math/rand/v2"
	"slices"

	"quota/api"
	"quota/page"
)

// drawn: numbers that look drawn but are the same in every run.
func drawn() *rand.Rand { return rand.New(rand.NewPCG(7, 0)) }

// wrong: a page's or its bytes' fault, whether it is there, and the error that tells it.
type wrong struct {
	there bool
	e     api.Errno
}

// firstOf: the error of the first that is there.
func firstOf(all []wrong) api.Errno {
	for _, w := range all {
		if w.there {
			return w.e
		}
	}
	return api.OK
}

func slotsOf(p page.Page) []wrong {
	var out []wrong
	for _, c := range p.Counters {
		out = append(out,
			wrong{c.ID < 1 || c.ID > 1<<20 || c.Group < 1 || c.Group > 1<<20, api.ErrField},
			wrong{c.Bounds.Lo > c.Bounds.Hi, api.ErrRange})
	}
	for _, g := range p.Groups {
		out = append(out, wrong{g.ID < 1 || g.ID > 1<<20, api.ErrField})
	}
	return out
}

// modelCheck: P7.2's words.
func modelCheck(p page.Page) api.Errno {
	counters, groups := len(p.Counters), len(p.Groups)
	return firstOf(append([]wrong{
		{p.Number < 0 || p.Number > 63, api.ErrPlace},
		{counters > 0 && groups > 0, api.ErrKind},
		{counters > 31 || groups > 84, api.ErrFull},
		{p.LSN < 0 || p.LSN > math.MaxInt32, api.ErrField},
		{p.LSN == 0 && counters+groups > 0, api.ErrField},
		{p.LSN != 0 && counters+groups == 0, api.ErrField},
	}, slotsOf(p)...))
}

// modelBytes: the chapter's table, of a right page.
func modelBytes(p page.Page) []byte {
	if len(p.Counters)+len(p.Groups) == 0 {
		return make([]byte, 1024)
	}
	low := binary.LittleEndian
	b := []byte{0x71, 1}
	if len(p.Groups) > 0 {
		b[1] = 2
	}
	b = low.AppendUint16(b, uint16(p.Number))
	b = low.AppendUint16(b, uint16(len(p.Counters)+len(p.Groups)))
	b = append(b, 0, 0)
	b = low.AppendUint32(b, uint32(p.LSN))
	b = append(b, 0, 0, 0, 0)
	for _, c := range p.Counters {
		b = low.AppendUint32(b, uint32(c.ID))
		b = low.AppendUint32(b, uint32(c.Group))
		b = low.AppendUint64(b, uint64(c.Bounds.Lo))
		b = low.AppendUint64(b, uint64(c.Bounds.Hi))
		b = low.AppendUint64(b, uint64(c.Value))
	}
	for _, g := range p.Groups {
		b = low.AppendUint32(b, uint32(g.ID))
		b = low.AppendUint64(b, uint64(g.Sum))
	}
	return summed(append(b, make([]byte, 1024-len(b))...))
}

// summed: the same bytes with their checksum.
func summed(b []byte) []byte {
	out := bytes.Clone(b)
	copy(out[12:16], []byte{0, 0, 0, 0})
	binary.LittleEndian.PutUint32(out[12:], crc32.ChecksumIEEE(out))
	return out
}

// modelDecode: P7.3's words.
func modelDecode(b []byte, number int) (page.Page, api.Errno) {
	if number < 0 || number > 63 {
		return page.Page{}, api.ErrPlace
	}
	if len(b) != 1024 {
		return page.Page{}, api.ErrData
	}
	if bytes.Count(b, []byte{0}) == 1024 {
		return page.Page{Number: number}, api.OK
	}
	low := binary.LittleEndian
	count, lsn := int(low.Uint16(b[4:])), int64(low.Uint32(b[8:]))
	size, most := 32, 31
	if b[1] == 2 {
		size, most = 12, 84
	}
	if e := firstOf([]wrong{
		{b[0] != 0x71, api.ErrMark},
		{b[1] != 1 && b[1] != 2, api.ErrKind},
		{!bytes.Equal(b, summed(b)), api.ErrSum},
		{int(low.Uint16(b[2:])) != number, api.ErrPage},
		{count == 0 || count > most, api.ErrField},
		{lsn == 0 || lsn > math.MaxInt32, api.ErrField},
	}); e != api.OK {
		return page.Page{}, e
	}
	p := modelSlots(b, count)
	p.Number, p.LSN = number, int(lsn)
	behind := b[16+size*count:]
	e := firstOf(append(slotsOf(p),
		wrong{b[6] != 0 || b[7] != 0, api.ErrField},
		wrong{bytes.Count(behind, []byte{0}) != len(behind), api.ErrField}))
	if e != api.OK {
		return page.Page{}, e
	}
	return p, api.OK
}

// modelSlots: of bytes that have room for as many.
func modelSlots(b []byte, count int) page.Page {
	low := binary.LittleEndian
	var p page.Page
	for k := range count {
		if b[1] == 1 {
			at := b[16+32*k:]
			p.Counters = append(p.Counters, api.Counter{
				ID: int(low.Uint32(at)), Group: int(low.Uint32(at[4:])),
				Bounds: api.Range{Lo: int64(low.Uint64(at[8:])), Hi: int64(low.Uint64(at[16:]))},
				Value:  int64(low.Uint64(at[24:])),
			})
		} else {
			at := b[16+12*k:]
			p.Groups = append(p.Groups, api.Group{ID: int(low.Uint32(at)), Sum: int64(low.Uint64(at[4:]))})
		}
	}
	return p
}

// same: but that an empty list and nil are one.
func same(a, b page.Page) bool {
	return a.Number == b.Number && a.LSN == b.LSN && slices.Equal(a.Counters, b.Counters) && slices.Equal(a.Groups, b.Groups)
}

// zero: nothing at all, which must stand beside an error.
func zero(p page.Page) bool { return p.Counters == nil && p.Groups == nil && same(p, page.Page{}) }

func drawn64(d *rand.Rand) int64 {
	switch d.IntN(6) {
	case 0:
		return math.MinInt64
	case 1:
		return math.MaxInt64
	}
	return int64(d.Uint64()) >> d.IntN(64)
}

func drawnID(d *rand.Rand) int {
	switch d.IntN(8) {
	case 0:
		return 1
	case 1:
		return 1 << 20
	}
	return 1 + d.IntN(1<<20)
}

func drawnCounter(d *rand.Rand) api.Counter {
	a, b := drawn64(d), drawn64(d)
	return api.Counter{ID: drawnID(d), Group: drawnID(d), Bounds: api.Range{Lo: min(a, b), Hi: max(a, b)}, Value: drawn64(d)}
}

func drawnGroup(d *rand.Rand) api.Group { return api.Group{ID: drawnID(d), Sum: drawn64(d)} }

func drawnCounters(d *rand.Rand, n int) []api.Counter {
	var out []api.Counter
	for range n {
		out = append(out, drawnCounter(d))
	}
	return out
}

func drawnGroups(d *rand.Rand, n int) []api.Group {
	var out []api.Group
	for range n {
		out = append(out, drawnGroup(d))
	}
	return out
}

// rightPages: of every number, empty ones, and of each kind with as few and as many as may be.
func rightPages(d *rand.Rand) []page.Page {
	var out []page.Page
	for number := range 64 {
		lsns := []int{1, 255, 256, 1 << 16, 1 << 24, math.MaxInt32, 1 + d.IntN(math.MaxInt32)}
		lsn := func() int { return lsns[d.IntN(len(lsns))] }
		out = append(out,
			page.Page{Number: number},
			page.Page{Number: number, LSN: lsn(), Counters: drawnCounters(d, 1)},
			page.Page{Number: number, LSN: lsn(), Counters: drawnCounters(d, 1+d.IntN(31))},
			page.Page{Number: number, LSN: lsn(), Counters: drawnCounters(d, 31)},
			page.Page{Number: number, LSN: lsn(), Groups: drawnGroups(d, 1)},
			page.Page{Number: number, LSN: lsn(), Groups: drawnGroups(d, 1+d.IntN(84))},
			page.Page{Number: number, LSN: lsn(), Groups: drawnGroups(d, 84)})
	}
	return out
}
