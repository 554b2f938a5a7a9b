package master_test

import (
	"bytes"
	"encoding/binary"
	"math"
	"math/rand/v2"
	"testing"

	"quota/api"
	"quota/master"
	"quota/sectors"
)

const lastStamp = 1 << 62

// told: what a sector says, by the chapter's words; ok, if it is a right slot of that disk.
type told struct {
	stamp uint64
	shape api.Shape
	point int
	ok    bool
}

func look(b []byte, sector, disk int) told {
	x := told{
		stamp: binary.LittleEndian.Uint64(b[1:9]),
		shape: api.Shape{Pages: int(b[9]), Log: int(b[10]) + 256*int(b[11]), Frames: int(b[12])},
		point: int(binary.LittleEndian.Uint32(b[13:17])),
	}
	s := x.shape
	may := s.Pages >= 2 && s.Pages <= 64 && s.Log >= 4 && s.Log <= 4096 && s.Frames >= 2 && s.Frames <= 16
	x.ok = b[0] == 0x4d && b[511] == b[1] && bytes.Count(b[17:511], []byte{0}) == 511-17 &&
		x.stamp >= 1 && x.stamp <= lastStamp && x.stamp%2 == uint64(sector) &&
		may && 2+3+2*s.Pages+s.Log == disk && x.point <= 1<<31-1
	return x
}

// masterOf: the right slot with the greater stamp.
func masterOf(t *testing.T, d *sectors.Device) told {
	t.Helper()
	var out told
	for i := range min(2, d.Sectors()) {
		b, e := d.Read(i)
		if e != api.OK {
			t.Fatalf("Read(%d) = %d", i, e)
		}
		if x := look(b, i, d.Sectors()); x.ok && (!out.ok || x.stamp > out.stamp) {
			out = x
		}
	}
	return out
}

func wantMaster(t *testing.T, what string, d *sectors.Device) {
	t.Helper()
	m := masterOf(t, d)
	if m.ok {
		wantOpen(t, what, d, m.shape, m.point)
	} else {
		wantNoOpen(t, what, d, api.ErrMaster)
	}
}

func TestEveryByteOfASlotCounts(t *testing.T) {
	for sector := range 2 {
		right := slotOf(uint64(0x0102030405060708+sector), api.Shape{Pages: 3, Log: 259, Frames: 4}, 0x01020304)
		for at := range 512 {
			for _, turn := range []byte{1, 2, 0x80, 0xff} {
				d := made(t, 5+6+259)
				b := bytes.Clone(right)
				b[at] ^= turn
				d.Write(sector, b)
				wantMaster(t, "P4.4: a byte is another", d)
			}
		}
		d := made(t, 5+6+259)
		d.Write(sector, right)
		wantOpen(t, "P4.4: one right slot", d, api.Shape{Pages: 3, Log: 259, Frames: 4}, 0x01020304)
		d.Write(sector, make([]byte, 512))
		d.Write(1-sector, right)
		wantNoOpen(t, "P4.4: the other's stamp", d, api.ErrMaster)
	}
}

func TestZerosOfASlot(t *testing.T) {
	for at := 17; at <= 510; at++ {
		d := formatted(t, small)
		b := slotOf(2, small, 9)
		b[at] = 1
		d.Write(0, b)
		wantOpen(t, "P4.4: a byte that is not zero", d, small, 0)
		b = slotOf(1, small, 0)
		b[at] = 0xff
		d.Write(1, b)
		wantNoOpen(t, "P4.4: a byte that is not zero in both", d, api.ErrMaster)
	}
}

func TestStampsOfASlot(t *testing.T) {
	for _, stamp := range []uint64{0, 1, 2, 3, 255, 256, 257, 258, 1 << 32, lastStamp - 2, lastStamp - 1, lastStamp, lastStamp + 1, lastStamp + 2, 1 << 63, 1<<63 + 2, math.MaxUint64 - 1, math.MaxUint64} {
		for sector := range 2 {
			d := made(t, 13)
			d.Write(sector, slotOf(stamp, small, 3))
			if stamp >= 1 && stamp <= lastStamp && stamp%2 == uint64(sector) {
				wantOpen(t, "P4.4: a stamp", d, small, 3)
			} else {
				wantNoOpen(t, "P4.4: no stamp", d, api.ErrMaster)
			}
		}
	}
}

func TestTheGreaterStampIsTheMasters(t *testing.T) {
	stamps := []uint64{1, 2, 3, 4, 254, 255, 256, 257, 1<<32 + 1, 1<<32 + 2, lastStamp - 1, lastStamp}
	for _, even := range stamps {
		for _, odd := range stamps {
			if even%2 != 0 || odd%2 != 1 {
				continue
			}
			d := made(t, 13)
			d.Write(0, slotOf(even, small, 100))
			d.Write(1, slotOf(odd, api.Shape{Pages: 2, Log: 4, Frames: 3}, 200))
			if even > odd {
				wantOpen(t, "P4.4: sector 0 is younger", d, small, 100)
			} else {
				wantOpen(t, "P4.4: sector 1 is younger", d, api.Shape{Pages: 2, Log: 4, Frames: 3}, 200)
			}
		}
	}
}

func TestShapesOfASlot(t *testing.T) {
	for _, pages := range []int{0, 1, 2, 3, 31, 63, 64, 65, 255} {
		for _, log := range []int{0, 3, 4, 5, 255, 256, 4096, 4097} {
			for _, frames := range []int{0, 1, 2, 16, 17, 255} {
				s := api.Shape{Pages: pages, Log: log, Frames: frames}
				for _, more := range []int{-1, 0, 1} {
					d := made(t, 5+2*pages+log+more)
					d.Write(1, slotOf(1, s, 0))
					wantMaster(t, "P4.4: a shape", d)
				}
			}
		}
	}
}

func TestPointsOfASlot(t *testing.T) {
	for _, point := range []int{0, 1, 1<<31 - 2, 1<<31 - 1, 1 << 31, 1<<31 + 1, 1<<32 - 1} {
		d := made(t, 13)
		d.Write(1, slotOf(1, small, point))
		wantMaster(t, "P4.4: a point", d)
	}
}

func TestStampsEnd(t *testing.T) {
	d := made(t, 13)
	d.Write(1, slotOf(lastStamp-1, small, 3))
	wantErr(t, "P4.5: to the last stamp", "Point", master.Point(d, 4), api.OK)
	wantSector(t, "P4.5", d, 0, slotOf(lastStamp, small, 4))
	wantOpen(t, "P4.4: the last stamp", d, small, 4)
	image, calls := d.Image(), d.Calls()
	for _, lsn := range []int{0, 4, 5, api.MaxLSN} {
		wantErr(t, "P4.5: no stamp is left", "Point", master.Point(d, lsn), api.ErrFull)
	}
	wantErr(t, "P4.5: ErrPlace comes first", "Point", master.Point(d, -1), api.ErrPlace)
	if !bytes.Equal(d.Image(), image) || d.Calls() != calls || len(d.Cache()) != 0 {
		t.Error("P4.5: a Point that is refused writes")
	}
	wantErr(t, "P4.3: over the last stamp", "Format", master.Format(d, small), api.OK)
	wantOpen(t, "P4.3: over the last stamp", d, small, 0)
}

func TestPointBehindEveryStamp(t *testing.T) {
	d := drawn()
	for range 300 {
		stamp := d.Uint64() % lastStamp >> d.IntN(62)
		stamp = max(stamp, 1)
		s := api.Shape{Pages: 2, Log: 4, Frames: 2 + d.IntN(15)}
		disk := made(t, 13)
		disk.Write(int(stamp%2), slotOf(stamp, s, 3))
		disk.Write(int(1-stamp%2), slotOf(stamp-1, small, 2))
		lsn := d.IntN(api.MaxLSN + 1)
		wantErr(t, "P4.5", "Point", master.Point(disk, lsn), api.OK)
		wantSector(t, "P4.5", disk, int((stamp+1)%2), slotOf(stamp+1, s, lsn))
		wantSector(t, "P4.5", disk, int(stamp%2), slotOf(stamp, s, 3))
		wantOpen(t, "P4.5", disk, s, lsn)
	}
}

// TestDrawnSlots: sectors that are right but for some bytes, against the chapter's words.
func TestDrawnSlots(t *testing.T) {
	d := drawn()
	right, both := 0, 0
	for range 20000 {
		disk := made(t, 13)
		for sector := range 2 {
			disk.Write(sector, drawnSlot(d))
		}
		m := masterOf(t, disk)
		if m.ok {
			right++
		}
		wantMaster(t, "P4.4: drawn", disk)
		lsn := d.IntN(100)
		err := master.Point(disk, lsn)
		switch {
		case !m.ok:
			wantErr(t, "P4.5: drawn", "Point", err, api.ErrMaster)
		case m.stamp == lastStamp:
			both++
			wantErr(t, "P4.5: drawn", "Point", err, api.ErrFull)
		default:
			wantErr(t, "P4.5: drawn", "Point", err, api.OK)
			wantSector(t, "P4.5: drawn", disk, int((m.stamp+1)%2), slotOf(m.stamp+1, m.shape, lsn))
		}
	}
	if right < 5000 || right > 19000 || both == 0 {
		t.Errorf("%d of the drawn disks have a master, %d the last stamp", right, both)
	}
}

// TestAnyBytes: disks of any size with any bytes, which nobody has formatted.
func TestAnyBytes(t *testing.T) {
	d := drawn()
	for n := 1; n <= 40; n++ {
		for range 20 {
			image := make([]byte, 512*n)
			for i := range image {
				image[i] = byte(d.Uint32())
			}
			for i := range min(n, 2) {
				if d.IntN(2) == 0 {
					image[512*i], image[512*i+511] = 0x4d, image[512*i+1]
				}
			}
			disk := loaded(t, image)
			wantMaster(t, "P4.1: any bytes", disk)
			wantErr(t, "P4.1: any bytes", "Point", master.Point(disk, d.IntN(9)), api.ErrMaster)
			if n >= 13 {
				s := api.Shape{Pages: 2, Log: n - 9, Frames: 16}
				wantErr(t, "P4.1: any bytes", "Format", master.Format(disk, s), api.OK)
				wantOpen(t, "P4.1: any bytes", disk, s, 0)
			}
		}
	}
}

func drawnSlot(d *rand.Rand) []byte {
	stamps := []uint64{0, 1, 2, 3, 4, 255, 256, 257, lastStamp - 1, lastStamp, lastStamp + 1, lastStamp + 2}
	s := api.Shape{Pages: 2, Log: 4, Frames: 1 + d.IntN(17)}
	if d.IntN(8) == 0 {
		s = api.Shape{Pages: d.IntN(4), Log: d.IntN(9), Frames: 2}
	}
	b := slotOf(stamps[d.IntN(len(stamps))], s, d.IntN(3)<<30)
	for range d.IntN(3) {
		at := d.IntN(20)
		if at > 17 {
			at = 492 + at
		}
		b[at] ^= byte(d.IntN(4))
	}
	return b
}
