package page_test

import (
	"bytes"
	"encoding/binary"
	"math"
	"testing"

	"quota/api"
	"quota/page"
)

// wantDecode: as the model says, and if it is a page, one form alone (P7.5).
func wantDecode(t *testing.T, b []byte, number int) api.Errno {
	t.Helper()
	want, e := modelDecode(b, number)
	if e != api.OK {
		wantNoDecode(t, "P7.3", b, number, e)
		return e
	}
	p, e := page.Decode(b, number)
	if e != api.OK || !same(p, want) {
		t.Errorf("P7.3: Decode(% x, %d) = %+v, %d, want %+v", b, number, p, e, want)
		return e
	}
	if again, e := page.Encode(p); e != api.OK || !bytes.Equal(again, b) {
		t.Errorf("P7.5: Decode(% x, %d) is a page, which Encode makes % x, %d", b, number, again, e)
	}
	return api.OK
}

// bytesOf: a page of three counters, or of three groups, with number 5 and LSN 9.
func bytesOf(kind byte) []byte {
	p := page.Page{Number: 5, LSN: 9}
	if kind == 1 {
		c := api.Counter{ID: 1, Group: 1, Bounds: api.Range{Lo: -5, Hi: 5}, Value: 3}
		p.Counters = []api.Counter{c, c, c}
	} else {
		p.Groups = []api.Group{{ID: 1, Sum: 3}, {ID: 2, Sum: -3}, {ID: 3}}
	}
	return modelBytes(p)
}

// with: the bytes with others at a place, under their checksum.
func with(b []byte, at int, v ...byte) []byte {
	out := bytes.Clone(b)
	copy(out[at:], v)
	return summed(out)
}

func TestNumbersOfDecode(t *testing.T) {
	for _, number := range []int{math.MinInt, -1 << 32, -1, 64, 65, 261, 1<<16 + 5, 1<<32 + 5, math.MaxInt} {
		for _, b := range [][]byte{bytesOf(1), make([]byte, 1024), nil, padded(0x70)} {
			wantNoDecode(t, "P7.3: no number", b, number, api.ErrPlace)
		}
	}
	for number := range 64 {
		if p, e := page.Decode(make([]byte, 1024), number); e != api.OK || !same(p, page.Page{Number: number}) {
			t.Errorf("P7.3: Decode of zeros, %d = %+v, %d", number, p, e)
		}
		if number != 5 {
			wantNoDecode(t, "P7.3: another page's", bytesOf(1), number, api.ErrPage)
			wantNoDecode(t, "P7.3: another page's", bytesOf(2), number, api.ErrPage)
		}
	}
	wantNoDecode(t, "P7.3: the number's high byte", with(bytesOf(1), 3, 1), 5, api.ErrPage)
	wantNoDecode(t, "P7.3: the number's high byte", with(bytesOf(2), 3, 0x80), 5, api.ErrPage)
}

func TestLengths(t *testing.T) {
	b := bytesOf(2)
	long := append(bytes.Clone(b), make([]byte, 1024)...)
	for _, n := range []int{0, 1, 16, 512, 1023, 1025, 1536, 2048} {
		wantNoDecode(t, "P7.3: length", long[:n:n], 5, api.ErrData)
		wantNoDecode(t, "P7.3: length", make([]byte, n), 5, api.ErrData)
	}
	wantNoDecode(t, "P7.3: nil", nil, 5, api.ErrData)
	wantDecode(t, long[:1024], 5)
}

func TestMarksAndKinds(t *testing.T) {
	for _, b := range [][]byte{bytesOf(1), bytesOf(2)} {
		for x := range 256 {
			if x != 0x71 {
				wantNoDecode(t, "P7.3: mark", with(b, 0, byte(x)), 5, api.ErrMark)
			}
			if x != 1 && x != 2 {
				wantNoDecode(t, "P7.3: kind", with(b, 1, byte(x)), 5, api.ErrKind)
			}
		}
	}
	for at := range 1024 {
		b := make([]byte, 1024)
		b[at] = 1
		wantNoDecode(t, "P7.3: a one among zeros", b, 5, api.ErrMark)
	}
}

func TestEdgesOfDecode(t *testing.T) {
	counters, groups := bytesOf(1), bytesOf(2)
	full := modelBytes(page.Page{Number: 5, LSN: 9, Counters: drawnCounters(drawn(), 31)})
	crowd := modelBytes(page.Page{Number: 5, LSN: 9, Groups: drawnGroups(drawn(), 84)})
	for _, c := range []struct {
		what string
		b    []byte
		want api.Errno
	}{
		{"no counters", with(counters, 4, 0, 0), api.ErrField},
		{"no groups", with(groups, 4, 0, 0), api.ErrField},
		{"no counters, and nothing there", summed(padded(0x71, 1, 5, 0, 0, 0, 0, 0, 9)), api.ErrField},
		{"no groups, and nothing there", summed(padded(0x71, 2, 5, 0, 0, 0, 0, 0, 9)), api.ErrField},
		{"nothing but a head", summed(padded(0x71, 2, 5)), api.ErrField},
		{"32 counters", with(full, 4, 32), api.ErrField},
		{"85 groups", with(crowd, 4, 85), api.ErrField},
		{"84 counters", with(full, 4, 84), api.ErrField},
		{"259 counters", with(counters, 4, 3, 1), api.ErrField},
		{"65535 groups", with(groups, 4, 0xff, 0xff), api.ErrField},
		{"LSN 0", with(counters, 8, 0, 0, 0, 0), api.ErrField},
		{"LSN 1", with(counters, 8, 1, 0, 0, 0), api.OK},
		{"LSN 2^31 - 1", with(groups, 8, 0xff, 0xff, 0xff, 0x7f), api.OK},
		{"LSN 2^31", with(groups, 8, 0, 0, 0, 0x80), api.ErrField},
		{"LSN 2^32 - 1", with(groups, 8, 0xff, 0xff, 0xff, 0xff), api.ErrField},
		{"ID 0", with(counters, 16, 0), api.ErrField},
		{"ID 2^20", with(counters, 16, 0, 0, 0x10, 0), api.OK},
		{"ID 2^20 + 1", with(counters, 16, 1, 0, 0x10, 0), api.ErrField},
		{"ID 2^24 + 1", with(counters, 16, 1, 0, 0, 1), api.ErrField},
		{"ID 2^32 - 1", with(counters, 16, 0xff, 0xff, 0xff, 0xff), api.ErrField},
		{"Group 0", with(counters, 20, 0), api.ErrField},
		{"Group 2^20", with(counters, 20, 0, 0, 0x10, 0), api.OK},
		{"Group 2^20 + 1", with(counters, 20, 1, 0, 0x10, 0), api.ErrField},
		{"the last Group 2^31", with(counters, 20+64, 0, 0, 0, 0x80), api.ErrField},
		{"bounds 5 to 5", with(counters, 24, 5, 0, 0, 0, 0, 0, 0, 0), api.OK},
		{"bounds 6 to 5", with(counters, 24, 6, 0, 0, 0, 0, 0, 0, 0), api.ErrRange},
		{"bounds -2^63 to 5", with(counters, 24, 0, 0, 0, 0, 0, 0, 0, 0x80), api.OK},
		{"a group's ID 0", with(groups, 16, 0), api.ErrField},
		{"a group's ID 2^20", with(groups, 16+12, 0, 0, 0x10, 0), api.OK},
		{"the last group's ID 2^20 + 1", with(groups, 16+24, 1, 0, 0x10, 0), api.ErrField},
		{"byte 6", with(counters, 6, 1), api.ErrField},
		{"byte 7", with(groups, 7, 0x80), api.ErrField},
		{"a counter less", with(counters, 4, 2), api.ErrField},
		{"a group less", with(groups, 4, 2), api.ErrField},
		{"a counter more", with(counters, 4, 4), api.ErrField},
		{"a group more", with(groups, 4, 4), api.ErrField},
		{"counters as groups", with(counters, 1, 2), api.ErrField},
		{"groups as counters", with(groups, 1, 1), api.ErrRange},
		{"zeros and their checksum", summed(padded(0x71, 1)), api.ErrPage},
	} {
		if e := wantDecode(t, c.b, 5); e != c.want {
			t.Errorf("P7.3: %s: %d, want %d", c.what, e, c.want)
		}
	}
}

func TestEveryByteBehindTheLast(t *testing.T) {
	for kind, end := range map[byte]int{1: 16 + 3*32, 2: 16 + 3*12} {
		for at := end; at < 1024; at++ {
			wantNoDecode(t, "P7.3: behind the last", with(bytesOf(kind), at, 0x80), 5, api.ErrField)
		}
	}
	full := modelBytes(page.Page{Number: 5, LSN: 9, Counters: drawnCounters(drawn(), 31)})
	crowd := modelBytes(page.Page{Number: 5, LSN: 9, Groups: drawnGroups(drawn(), 84)})
	wantDecode(t, full, 5)
	wantDecode(t, crowd, 5)
	if full[1007] == 0 && full[1006] == 0 || crowd[1023] == 0 && crowd[1022] == 0 {
		t.Fatal("drawn pages that do not reach the end")
	}
	wantNoDecode(t, "P7.3: behind 31 counters", with(full, 1008, 1), 5, api.ErrField)
	wantNoDecode(t, "P7.3: behind 31 counters", with(full, 1023, 1), 5, api.ErrField)
}

// TestOrderOfDecode: bytes with two things wrong are told by the one that the chapter names first.
func TestOrderOfDecode(t *testing.T) {
	wrongs := []struct {
		what string
		at   int
		v    []byte
		want api.Errno
	}{
		{"mark", 0, []byte{0x70}, api.ErrMark},
		{"kind", 1, []byte{3}, api.ErrKind},
		{"checksum", 12, nil, api.ErrSum},
		{"number", 2, []byte{6}, api.ErrPage},
		{"too many", 4, []byte{32}, api.ErrField},
		{"none", 4, []byte{0}, api.ErrField},
		{"LSN", 8, []byte{0, 0, 0, 0}, api.ErrField},
		{"bounds of the first", 24, []byte{6, 0, 0, 0, 0, 0, 0, 0}, api.ErrRange},
		{"ID of the second", 48, []byte{0}, api.ErrField},
		{"bounds of the second", 56, []byte{6, 0, 0, 0, 0, 0, 0, 0}, api.ErrRange},
		{"Group of the third", 84, []byte{0}, api.ErrField},
		{"bounds of the third", 88, []byte{6, 0, 0, 0, 0, 0, 0, 0}, api.ErrRange},
		{"byte 6", 6, []byte{1}, api.ErrField},
		{"behind the last", 1000, []byte{1}, api.ErrField},
	}
	for i, a := range wrongs {
		for _, b := range wrongs[i:] {
			spoilt := bytesOf(1)
			copy(spoilt[a.at:], a.v)
			copy(spoilt[b.at:], b.v)
			spoilt = summed(spoilt)
			if a.at == 12 || b.at == 12 {
				spoilt[15] ^= 0x40
			}
			wantNoDecode(t, "P7.3: "+a.what+" and "+b.what, spoilt, 5, a.want)
			wantNoDecode(t, "P7.3: no number, "+a.what+" and "+b.what, spoilt, 64, api.ErrPlace)
			wantNoDecode(t, "P7.3: too long, "+a.what+" and "+b.what, append(spoilt, 0), 5, api.ErrData)
		}
	}
}

// TestOneBitTurned: P7.6 of full pages and of those with little, all bits under some numbers and the head's under all.
func TestOneBitTurned(t *testing.T) {
	d := drawn()
	for _, p := range []page.Page{
		{Number: 0}, {Number: 63},
		{Number: 0, LSN: 1, Counters: drawnCounters(d, 1)},
		{Number: 21, LSN: math.MaxInt32, Counters: drawnCounters(d, 31)},
		{Number: 63, LSN: 1 << 24, Groups: drawnGroups(d, 84)},
		{Number: 32, LSN: 1, Groups: []api.Group{{ID: 1}}},
	} {
		b, e := page.Encode(p)
		if e != api.OK {
			t.Fatalf("P7.2: Encode(%+v) = %d", p, e)
		}
		for bit := range 8 * len(b) {
			numbers := []int{p.Number, p.Number ^ 1, p.Number ^ 32, -1, 64}
			if bit < 8*16 {
				for n := range 64 {
					numbers = append(numbers, n)
				}
			}
			b[bit/8] ^= 1 << (bit % 8)
			for _, number := range numbers {
				if q, e := page.Decode(b, number); e == api.OK || !zero(q) {
					t.Fatalf("P7.6: with bit %d turned, under number %d: %+v, %d", bit, number, q, e)
				}
			}
			b[bit/8] ^= 1 << (bit % 8)
		}
	}
}

// TestEverySum: no checksum but one is taken.
func TestEverySum(t *testing.T) {
	b := bytesOf(1)
	for at := 12; at < 16; at++ {
		for x := 1; x < 256; x++ {
			spoilt := bytes.Clone(b)
			spoilt[at] ^= byte(x)
			wantNoDecode(t, "P7.3: checksum", spoilt, 5, api.ErrSum)
		}
	}
	spoilt := bytes.Clone(b)
	copy(spoilt[12:], []byte{0, 0, 0, 0})
	wantNoDecode(t, "P7.3: no checksum", spoilt, 5, api.ErrSum)
	binary.LittleEndian.PutUint32(spoilt[12:], ^binary.LittleEndian.Uint32(b[12:]))
	wantNoDecode(t, "P7.3: the checksum turned", spoilt, 5, api.ErrSum)
}

// TestDrawnBytes: pages with some bytes drawn anew, mostly under their checksum, against the model.
func TestDrawnBytes(t *testing.T) {
	d := drawn()
	met := map[api.Errno]int{}
	for range 60 {
		for _, p := range rightPages(d) {
			b := modelBytes(p)
			for range d.IntN(4) {
				at := d.IntN(1024)
				if d.IntN(2) == 0 {
					at = d.IntN(64)
				}
				b[at] = []byte{0, 1, 2, 0x10, 0x7f, 0x80, 0xff, byte(d.Uint64())}[d.IntN(8)]
			}
			if b[0] != 0 && d.IntN(8) != 0 {
				b = summed(b)
			}
			number := p.Number
			if d.IntN(8) == 0 {
				number = d.IntN(66) - 1
			}
			met[wantDecode(t, b[:1024-d.IntN(40)/39], number)]++
		}
	}
	for _, e := range []api.Errno{api.OK, api.ErrPlace, api.ErrData, api.ErrMark, api.ErrKind, api.ErrSum, api.ErrPage, api.ErrField, api.ErrRange} {
		if met[e] < 50 {
			t.Errorf("of the drawn bytes only %d have %d", met[e], e)
		}
	}
}

// TestAnyBytes: nothing of them looks like a page, but for the first two at times.
func TestAnyBytes(t *testing.T) {
	d := drawn()
	for range 2000 {
		b := make([]byte, 1024)
		for i := range b {
			b[i] = byte(d.Uint64() >> d.IntN(16))
		}
		if d.IntN(3) > 0 {
			b[0] = 0x71
		}
		if d.IntN(3) > 0 {
			b[1] = byte(1 + d.IntN(2))
			b = summed(b)
		}
		wantDecode(t, b, int(b[2])&63)
		n := d.IntN(1024)
		wantDecode(t, b[:n], int(b[2]))
	}
}
