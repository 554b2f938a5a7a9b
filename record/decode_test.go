package record_test

import (
	"bytes"
	"testing"

	"quota/api"
	"quota/record"
)

func TestFaultsComeInTheirOrder(t *testing.T) {
	for _, c := range []struct {
		name, b string
		want    api.Errno
	}{
		{"a kind that is cut", "88", api.ErrShort},
		{"a kind too long", "81 00 05", api.ErrForm},
		{"a kind of ten bytes", "80 80 80 80 80 80 80 80 80 80 01", api.ErrForm},
		{"the greatest number is no kind", "ff ff ff ff ff ff ff ff ff 01", api.ErrKind},
		{"a kind whose lowest bits are those of Begin", "81 80 80 80 80 80 80 80 80 01 05", api.ErrKind},
		{"no kind, ahead of what follows", "09 80", api.ErrKind},
		{"Tx is 2^31 - 1", "01 ff ff ff ff 07", api.OK},
		{"Tx is 2^31", "01 80 80 80 80 08", api.ErrField},
		{"Tx is 2^31, ahead of a tail", "01 80 80 80 80 08 00", api.ErrField},
		{"Tx is 2^31, ahead of a Prev that is missing", "05 80 80 80 80 08", api.ErrField},
		{"Tx is 0, behind a Prev that is missing", "05 00", api.ErrShort},
		{"Tx is 0, behind a Prev too long", "05 00 81 00", api.ErrForm},
		{"Tx is 0, behind a tail", "01 00 00", api.ErrTail},
		{"page 64, behind what is missing", "02 40", api.ErrShort},
		{"page 64, behind a number beyond int", "02 40 80 80 80 80 08", api.ErrField},
		{"page 64 of a whole one", "02 40 03 01 00 07 02 01 d8 04 80 01", api.ErrField},
		{"page 64 of one with a tail", "02 40 03 01 00 07 02 01 d8 04 80 01 00", api.ErrTail},
		{"ID 0", "03 05 09 00 03 01 00 00 05", api.ErrField},
		{"ID 2^31", "03 05 09 00 03 01 00 80 80 80 80 08 05", api.ErrField},
		{"group 2^31, then a Lo that is cut", "02 00 03 01 00 07 80 80 80 80 08 80", api.ErrField},
		{"the least delta", "03 05 09 00 03 01 00 07 ff ff ff ff ff ff ff ff ff 01", api.OK},
		{"a delta beyond 64 bits", "03 05 09 00 03 01 00 07 ff ff ff ff ff ff ff ff ff 02", api.ErrForm},
		{"Lo above Hi", "02 00 03 01 00 07 02 02 01 02", api.ErrField},
		{"a value below Lo", "02 00 03 01 00 07 02 02 04 00", api.ErrField},
		{"one page for both", "03 05 09 01 03 01 00 07 05", api.ErrField},
		{"Next 0", "08 00 00 00", api.ErrField},
		{"Next 0, behind what is missing", "08 00 00", api.ErrShort},
		{"Next 2^31", "08 80 80 80 80 08 00 00", api.OK},
		{"Next 2^31 + 1", "08 81 80 80 80 08", api.ErrField},
		{"32 live, and none there", "08 01 20", api.ErrShort},
		{"33 live, and none there", "08 01 21", api.ErrField},
		{"2^64 - 1 live", "08 01 ff ff ff ff ff ff ff ff ff 01", api.ErrField},
		{"16 dirty, and none there", "08 01 00 10", api.ErrShort},
		{"17 dirty, and none there", "08 01 00 11", api.ErrField},
		{"a live one's last number is 2", "08 06 01 05 09 02 00", api.OK},
		{"a live one's last number is 3", "08 06 01 05 09 03", api.ErrField},
		{"a live one's last number is 0 in two bytes", "08 06 01 05 09 80 00", api.ErrForm},
		{"a live one's Last is 2^31", "08 06 01 05 80 80 80 80 08", api.ErrField},
		{"a live one is Next, behind what is missing", "08 05 01 05 09 00", api.ErrShort},
		{"a live one is Next", "08 05 01 05 09 00 00", api.ErrField},
		{"a live one is there twice", "08 06 02 05 08 00 05 09 00 00", api.ErrField},
		{"page 64 is dirty, behind a tail", "08 06 00 01 40 01 00", api.ErrTail},
		{"page 64 is dirty", "08 06 00 01 40 01", api.ErrField},
		{"page 2^31 is dirty", "08 06 00 01 80 80 80 80 08", api.ErrField},
	} {
		b := hexed(t, c.b)
		if e := wantDecode(t, b); e != c.want {
			t.Errorf("P5.4: %s: Decode(% x) = %d, want %d", c.name, b, e, c.want)
		}
	}
}

// TestShortBytes: all lists of a few bytes.
func TestShortBytes(t *testing.T) {
	told := map[api.Errno]int{}
	told[wantDecode(t, nil)]++
	for x := range 256 {
		told[wantDecode(t, []byte{byte(x)})]++
		for y := range 256 {
			told[wantDecode(t, []byte{byte(x), byte(y)})]++
		}
	}
	some := []byte{0x00, 0x01, 0x02, 0x05, 0x10, 0x21, 0x7f, 0x80, 0xff}
	for kind := range byte(10) {
		for _, rest := range words(some, 4) {
			for n := range 5 {
				told[wantDecode(t, append([]byte{kind}, rest[:n]...))]++
			}
		}
	}
	for _, e := range []api.Errno{api.OK, api.ErrShort, api.ErrTail, api.ErrForm, api.ErrField, api.ErrKind} {
		if told[e] == 0 {
			t.Errorf("error %d is never told: %v", e, told)
		}
	}
}

// words: all lists of so many bytes out of a few.
func words(of []byte, length int) [][]byte {
	out := [][]byte{nil}
	for range length {
		var longer [][]byte
		for _, w := range out {
			for _, b := range of {
				longer = append(longer, append(bytes.Clone(w), b))
			}
		}
		out = longer
	}
	return out
}

// TestSpoiltBytes: every byte of a record is another one, is missing, is there twice.
func TestSpoiltBytes(t *testing.T) {
	d := drawn()
	for _, kind := range every {
		for range 6 {
			b := modelBytes(drawnRecord(d, kind))
			for at := range b {
				for x := range 256 {
					other := bytes.Clone(b)
					other[at] = byte(x)
					wantDecode(t, other)
				}
				wantDecode(t, append(bytes.Clone(b[:at]), b[at+1:]...))
				wantDecode(t, append(bytes.Clone(b[:at+1]), b[at:]...))
				wantDecode(t, append(append(bytes.Clone(b[:at]), b[at]|0x80, 0x00), b[at+1:]...))
			}
		}
	}
}

// TestDrawnNumbers: numbers of any size where a kind asks for some, and too many of them or too few.
func TestDrawnNumbers(t *testing.T) {
	d := drawn()
	taken := 0
	for range 60000 {
		b := []byte{byte(d.IntN(10))}
		for range d.IntN(12) {
			b = append(b, formOf(d.Uint64()>>(d.IntN(2)*40+d.IntN(24)))...)
			b = append(b, formOf(d.Uint64N(4))...)
		}
		wantDecode(t, b)
	}
	for range 60000 {
		b := []byte{byte(1 + d.IntN(8))}
		for range d.IntN(10) {
			b = append(b, byte(d.IntN(1+d.IntN(6))))
		}
		if wantDecode(t, b) == api.OK {
			taken++
		}
	}
	if taken < 500 {
		t.Errorf("only %d of the drawn ones are records", taken)
	}
}

func TestAnyBytes(t *testing.T) {
	d := drawn()
	for range 20000 {
		b := make([]byte, d.IntN(40))
		for i := range b {
			b[i] = byte(d.Uint32())
		}
		if len(b) > 0 && d.IntN(4) > 0 {
			b[0] = byte(1 + d.IntN(8))
		}
		wantDecode(t, b)
	}
	long := bytes.Repeat([]byte{1}, 1<<20)
	wantNoDecode(t, "P5.1: a long list", long, api.ErrTail)
	if _, e := record.Decode(bytes.Repeat([]byte{0xff}, 1<<20)); e != api.ErrForm {
		t.Errorf("P5.4: many ff: %d", e)
	}
}
