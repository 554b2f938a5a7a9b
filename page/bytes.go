package page

import (
	"quota/api"
	"quota/field"
)

const (
	mark       = 0x71
	ofCounters = 1
	ofGroups   = 2
)

// Where the checksum stands, which is not a part of what it is a checksum of.
const (
	sumAt   = 12
	sumSize = 4
)

// head: the numbers ahead of a page's counters or groups, in their order, as they stand there.
type head struct {
	mark, kind, number, count, spare, lsn, sum uint64
}

// The sizes of the numbers that stand one behind the other.
func headSizes() []int    { return []int{1, 1, 2, 2, 2, 4, sumSize} }
func counterSizes() []int { return []int{4, 4, 8, 8, 8} }
func groupSizes() []int   { return []int{4, 8} }

// lay answers the bytes of b that stand behind the numbers. Put refuses none of these: the page has been checked, and a page's bytes have room for as many as it may have.
func lay(b []byte, sizes []int, numbers ...uint64) []byte {
	for i, n := range numbers {
		field.Put(b, 0, sizes[i], n)
		b = b[sizes[i]:]
	}
	return b
}

// take: what lay has laid, and the bytes behind.
func take(b []byte, sizes []int) ([]uint64, []byte) {
	var numbers []uint64
	for _, size := range sizes {
		n, _ := field.Get(b, 0, size)
		numbers = append(numbers, n)
		b = b[size:]
	}
	return numbers, b
}

// layPage: of a page that is not empty. The head is laid a second time, since its checksum is one of all the bytes.
func layPage(b []byte, p Page) {
	h := headOf(p)
	behind := layHead(b, h)
	for _, c := range p.Counters {
		behind = lay(behind, counterSizes(), uint64(c.ID), uint64(c.Group), uint64(c.Bounds.Lo), uint64(c.Bounds.Hi), uint64(c.Value))
	}
	for _, g := range p.Groups {
		behind = lay(behind, groupSizes(), uint64(g.ID), uint64(g.Sum))
	}
	h.sum = uint64(sumOf(b))
	layHead(b, h)
}

func layHead(b []byte, h head) []byte {
	return lay(b, headSizes(), h.mark, h.kind, h.number, h.count, h.spare, h.lsn, h.sum)
}

// headOf: but for the checksum.
func headOf(p Page) head {
	h := head{mark: mark, kind: ofCounters, number: uint64(p.Number), count: uint64(len(p.Counters)), lsn: uint64(p.LSN)}
	if len(p.Groups) > 0 {
		h.kind, h.count = ofGroups, uint64(len(p.Groups))
	}
	return h
}

func readHead(b []byte) (head, []byte) {
	n, behind := take(b, headSizes())
	return head{mark: n[0], kind: n[1], number: n[2], count: n[3], spare: n[4], lsn: n[5], sum: n[6]}, behind
}

// readPage: of a head that was checked, and of the bytes behind it; and what stands behind the last counter or group.
func readPage(h head, b []byte) (Page, []byte) {
	p := Page{Number: int(h.number), LSN: int(h.lsn)}
	var n []uint64
	for range h.count {
		if h.kind == ofCounters {
			n, b = take(b, counterSizes())
			p.Counters = append(p.Counters, counterOf(n))
		} else {
			n, b = take(b, groupSizes())
			p.Groups = append(p.Groups, api.Group{ID: int(n[0]), Sum: int64(n[1])})
		}
	}
	return p, b
}

func counterOf(n []uint64) api.Counter {
	return api.Counter{ID: int(n[0]), Group: int(n[1]), Bounds: api.Range{Lo: int64(n[2]), Hi: int64(n[3])}, Value: int64(n[4])}
}

// sumOf: of a page's bytes, with zeros where the checksum stands.
func sumOf(b []byte) uint32 {
	return field.Sum(b[:sumAt], make([]byte, sumSize), b[sumAt+sumSize:])
}

func allZeros(b []byte) bool {
	for _, x := range b {
		if x != 0 {
			return false
		}
	}
	return true
}
