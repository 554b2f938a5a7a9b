package log_test

import (
	"bytes"
	"math/rand/v2"
	"testing"

	"quota/api"
	"quota/log"
	"quota/record"
	"quota/sectors"
)

// drawn: numbers that look drawn but are the same in every run.
func drawn() *rand.Rand { return rand.New(rand.NewPCG(6, 0)) }

// sectorOf: a record's sector, each byte laid where the chapter says.
func sectorOf(lsn int, of []byte) []byte {
	b := make([]byte, 512)
	b[0], b[511] = 0x6c, 0xa5
	b[1], b[2], b[3], b[4] = byte(lsn), byte(lsn>>8), byte(lsn>>16), byte(lsn>>24)
	b[5], b[6] = byte(len(of)%256), byte(len(of)/256)
	copy(b[7:], of)
	return b
}

func bytesOf(t *testing.T, r api.Record) []byte {
	t.Helper()
	b, e := record.Encode(r)
	if e != api.OK {
		t.Fatalf("Encode(%+v) = %d", r, e)
	}
	return b
}

// isRecord: are these bytes such as the chapter's table says, with that LSN?
func isRecord(b []byte, lsn int) bool {
	size := int(b[5]) + 256*int(b[6])
	return size >= 1 && size <= 502 && bytes.Equal(b, sectorOf(lsn, b[7:7+size]))
}

// makesSense: may the record of that LSN have these bytes?
func makesSense(b []byte, lsn int) bool {
	r, e := record.Decode(b[7 : 7+int(b[5])+256*int(b[6])])
	r.LSN = lsn
	return e == api.OK && record.Check(r) == api.OK
}

// there: how many records of a log's bytes are there; and the LSN of the first that makes no sense, or 0.
func there(image []byte) (n, odd int) {
	for len(image) > 0 && isRecord(image[:512], n+1) {
		if !makesSense(image[:512], n+1) {
			return 0, n + 1
		}
		image = image[512:]
		n++
	}
	return n, 0
}

// wiped: an image whose log, in these sectors, ends behind so many records; and how many sectors that changes.
func wiped(image []byte, first, count, n int) ([]byte, int) {
	out := bytes.Clone(image)
	changed := 0
	for i := first + n; i < first+count; i++ {
		s := out[512*i : 512*i+512]
		if !bytes.Equal(s, make([]byte, 512)) {
			changed++
		}
		clear(s)
	}
	return out, changed
}

// wantOpen: what Open makes of an image is what the chapter says.
func wantOpen(t *testing.T, what string, image []byte, first, count int) *log.Log {
	t.Helper()
	d := loaded(t, image)
	n, odd := there(image[512*first : 512*(first+count)])
	if odd > 0 {
		wantNoOpen(t, what, d, first, count, odd, api.ErrLog)
		wantCalls(t, what+": nothing more is done", d, 0)
		return nil
	}
	l := opened(t, d, first, count)
	wantNumbers(t, what, l, n, n, count-n)
	want, changed := wiped(image, first, count, n)
	wantCalls(t, what, d, changed+min(changed, 1))
	if !bytes.Equal(d.Image(), want) || len(d.Cache()) != 0 {
		t.Errorf("%s: the disk is not as it should be behind %d records", what, n)
	}
	wantTwice(t, d, first, count, l)
	return l
}

// wantTwice: a second Open finds the same, and changes nothing.
func wantTwice(t *testing.T, d *sectors.Device, first, count int, l *log.Log) {
	t.Helper()
	was := d.Calls()
	m := opened(t, d, first, count)
	wantCalls(t, "P6.8", d, was)
	wantNumbers(t, "P6.8", m, l.Forced(), l.Last(), l.Free())
	for s := 1; s <= l.Last(); s++ {
		r, e := l.Get(s)
		wantGet(t, "P6.8", m, s, r, e)
	}
}

func TestSectorsOfRecords(t *testing.T) {
	d := made(t, 8)
	l := opened(t, d, 0, 8)
	appendAll(t, l, []api.Record{begin(1), begin(300), commit(300, 2)})
	wantForce(t, "P6.4", l, 3, api.OK)
	for i, head := range [][]byte{{0x6c, 1, 0, 0, 0, 2, 0, 1, 1}, {0x6c, 2, 0, 0, 0, 3, 0, 1, 0xac, 2}, {0x6c, 3, 0, 0, 0, 4, 0, 5, 0xac, 2, 2}} {
		want := make([]byte, 512)
		copy(want, head)
		want[511] = 0xa5
		if got := d.Image()[512*i : 512*i+512]; !bytes.Equal(got, want) {
			t.Errorf("the sector of record %d is % x .. %x, want % x .. %x", i+1, got[:12], got[511], want[:12], want[511])
		}
	}
}

// TestEveryKind: whatever may be a record is found again, record by record.
func TestEveryKind(t *testing.T) {
	for _, r := range kinds() {
		d := made(t, 40)
		l := opened(t, d, 3, 30)
		want := []api.Record{begin(1), begin(2), begin(3), begin(4), begin(5), begin(6), begin(7), begin(8), r, r, begin(9)}
		appendAll(t, l, want)
		wantForce(t, "P6.4", l, len(want), api.OK)
		for i, w := range want {
			w.LSN = i + 1
			wantGet(t, "P6.6", l, i+1, w, api.OK)
		}
		wantRecords(t, "P6.9", wantOpen(t, "P6.9", d.Image(), 3, 30), want, 30)
	}
}

// TestManyRecords: LSNs of more than one byte, and as many sectors as a disk may have.
func TestManyRecords(t *testing.T) {
	d := made(t, api.MaxSectors)
	l := opened(t, d, 0, api.MaxSectors)
	var want []api.Record
	for i := range api.MaxSectors {
		r := begin(api.MaxTx - i)
		if i >= 300 && i%7 == 0 {
			r = great(i + 1)
		}
		want = append(want, r)
	}
	appendAll(t, l, want)
	wantForce(t, "P6.4", l, api.MaxSectors, api.OK)
	wantNumbers(t, "P6.5", l, api.MaxSectors, api.MaxSectors, 0)
	wantAppend(t, "P6.3", l, begin(1), 0, api.ErrFull)
	m := opened(t, loaded(t, d.Image()), 0, api.MaxSectors)
	wantRecords(t, "P6.9", m, want, api.MaxSectors)
	copyOf := d.Image()
	for i := range api.MaxSectors {
		if !bytes.Equal(copyOf[512*i:512*i+512], sectorOf(i+1, bytesOf(t, want[i]))) {
			t.Fatalf("the sector of record %d", i+1)
		}
	}
}

// TestEveryByte: one byte of a log's second record is another.
func TestEveryByte(t *testing.T) {
	for _, r := range []api.Record{commit(1, 1), great(2)} {
		image := bytes.Join([][]byte{sectorOf(1, []byte{1, 1}), sectorOf(2, bytesOf(t, r)), sectorOf(3, []byte{1, 3}), make([]byte, 512)}, nil)
		wantOpen(t, "P6.2: as it is", image, 0, 4)
		for i := range 512 {
			was := image[512+i]
			for _, to := range []byte{0, 1, 2, 3, 4, 5, 7, 8, 0x6c, 0x7f, 0x80, 0xa5, 0xff, was ^ 1, was ^ 0x80, was + 1} {
				image[512+i] = to
				wantOpen(t, "P6.2: another byte", image, 0, 4)
			}
			image[512+i] = was
		}
	}
}

// TestSizes: how many bytes a record may say that it has, with bytes and without.
func TestSizes(t *testing.T) {
	for _, size := range []int{0, 1, 2, 3, 255, 256, 257, 258, 501, 502, 503, 504, 505, 511, 512, 513, 768, 65534, 65535} {
		for _, fill := range []byte{0, 1, 5, 0xee} {
			b := sectorOf(1, bytes.Repeat([]byte{fill}, min(size, 502)))
			b[5], b[6] = byte(size), byte(size>>8)
			wantOpen(t, "P6.2: a size", append(b, make([]byte, 1024)...), 0, 3)
		}
	}
	for _, fill := range []byte{1, 0} { // where a record's bytes may not reach any more
		b := sectorOf(1, bytes.Repeat([]byte{5}, 502))
		b[509], b[510] = fill, fill
		wantOpen(t, "P6.2: behind the last byte", append(b, make([]byte, 512)...), 0, 2)
	}
}

// TestNumbers: only the LSN that must come.
func TestNumbers(t *testing.T) {
	for _, lsn := range []int{0, 1, 2, 3, 4, 255, 256, 258, 65536 + 2, 1<<24 + 2, 1 << 25, 1<<31 - 1, 1<<32 - 1} {
		image := bytes.Join([][]byte{sectorOf(1, []byte{1, 1}), sectorOf(lsn, []byte{1, 1}), sectorOf(3, []byte{1, 1})}, nil)
		wantOpen(t, "P6.2: another number", image, 0, 3)
	}
	image := bytes.Join([][]byte{make([]byte, 512), sectorOf(1, []byte{1, 1}), sectorOf(2, []byte{1, 1}), sectorOf(3, []byte{1, 1})}, nil)
	wantOpen(t, "P6.2: the first sector is zeros", image, 0, 4)
	wantOpen(t, "P6.2: all of it", image, 1, 3)
	wantOpen(t, "P6.2: one of it", image, 1, 1)
	wantOpen(t, "P6.2: a record that belongs elsewhere", image, 2, 2)
}

// TestSense: bytes that are no record's, or none of this LSN.
func TestSense(t *testing.T) {
	for _, c := range []struct {
		what string
		of   []byte
		odd  bool
	}{
		{"a begin", []byte{1, 5}, false},
		{"no kind", []byte{0, 5}, true},
		{"no kind", []byte{9}, true},
		{"a begin cut short", []byte{1}, true},
		{"a byte too much", []byte{1, 5, 0}, true},
		{"no shortest form", []byte{1, 0x85, 0}, true},
		{"no transaction", []byte{1, 0}, true},
		{"a commit behind record 1", []byte{5, 5, 1}, false},
		{"a commit behind itself", []byte{5, 5, 2}, true},
		{"a commit behind what comes", []byte{5, 5, 3}, true},
		{"a checkpoint with a page dirty since itself", []byte{8, 1, 0, 1, 0, 2}, true},
		{"a checkpoint with a page dirty since record 1", []byte{8, 1, 0, 1, 0, 1}, false},
		{"a checkpoint with a last record that comes", []byte{8, 2, 1, 1, 3, 0, 0}, true},
	} {
		image := bytes.Join([][]byte{sectorOf(1, []byte{1, 1}), sectorOf(2, c.of), sectorOf(3, []byte{0}), bytes.Repeat([]byte{9}, 512)}, nil)
		at := 3 // if the second is right the third is found out
		if c.odd {
			at = 2
		}
		d := loaded(t, image)
		wantNoOpen(t, "P6.2: "+c.what, d, 0, 4, at, api.ErrLog)
		wantCalls(t, "P6.2: nothing more is done", d, 0)
		if l := wantOpen(t, "P6.2: "+c.what, image[:1024], 0, 2); c.odd != (l == nil) {
			t.Errorf("P6.2: %s: opened: %v", c.what, l != nil)
		}
	}
}

// TestCacheIsSynced: ahead of all else, wherever the pending write is, and ahead of ErrLog too.
func TestCacheIsSynced(t *testing.T) {
	for _, c := range []struct {
		what   string
		sector int
		bytes  []byte
		calls  int
		at     int
		last   int
	}{
		{"elsewhere", 0, bytes.Repeat([]byte{1}, 512), 1, 0, 1},
		{"a record", 3, sectorOf(2, []byte{1, 2}), 1, 0, 2},
		{"something behind the end", 4, sectorOf(3, []byte{1, 2}), 3, 0, 1},
		{"zeros over the first", 2, make([]byte, 512), 1, 0, 0},
		{"a record without sense", 3, sectorOf(2, []byte{1, 0}), 1, 2, 0},
	} {
		d := loaded(t, bytes.Join([][]byte{make([]byte, 1024), sectorOf(1, []byte{1, 1}), make([]byte, 1024)}, nil))
		d.Write(c.sector, c.bytes)
		if c.at > 0 {
			wantNoOpen(t, "P6.2: "+c.what, d, 2, 3, c.at, api.ErrLog)
		} else {
			wantNumbers(t, "P6.2: "+c.what, opened(t, d, 2, 3), c.last, c.last, 3-c.last)
		}
		wantCalls(t, "P6.2: "+c.what, d, 1+c.calls)
		if len(d.Cache()) != 0 {
			t.Errorf("P6.2: %s: something waits in the cache", c.what)
		}
	}
}

// TestDrawnImages: sectors that are records, nearly records, or anything.
func TestDrawnImages(t *testing.T) {
	r := drawn()
	for range 3000 {
		var image []byte
		n := 1 + r.IntN(7)
		first := r.IntN(n)
		for i := range n {
			image = append(image, drawnSector(t, r, i-first+1)...)
		}
		wantOpen(t, "P6.2: drawn", image, first, 1+r.IntN(n-first))
	}
}

func drawnSector(t *testing.T, r *rand.Rand, lsn int) []byte {
	t.Helper()
	switch r.IntN(16) {
	case 0:
		return make([]byte, 512)
	case 1:
		return append(make([]byte, 511), 1)
	case 2:
		return append([]byte{0x6c}, make([]byte, 511)...)
	}
	all := kinds()
	b := sectorOf(lsn, bytesOf(t, all[r.IntN(len(all))]))
	switch r.IntN(12) {
	case 0:
		b[r.IntN(512)] ^= 1 << r.IntN(8)
	case 1:
		clear(b[r.IntN(512):])
	case 2:
		clear(b[:1+r.IntN(511)])
	}
	return b
}
