package field_test

import (
	"bytes"
	"hash/crc32"
	"testing"

	"quota/field"
)

// checksum: the chapter's words, bit by bit.
func checksum(b []byte) uint32 {
	register := uint32(0xffffffff)
	for _, x := range b {
		register ^= uint32(x)
		for range 8 {
			fell := register & 1
			register >>= 1
			if fell == 1 {
				register ^= 0xedb88320
			}
		}
	}
	return register ^ 0xffffffff
}

func drawnBytes(seed int, length int) []byte {
	d := drawn()
	for range seed {
		d.Uint64()
	}
	out := make([]byte, length)
	for i := range out {
		out[i] = byte(d.Uint64() >> 20)
	}
	return out
}

func TestExamplesOfSums(t *testing.T) {
	for _, c := range []struct {
		text string
		want uint32
	}{
		{"", 0}, {"\x00", 0xd202ef8d}, {"123456789", 0xcbf43926},
	} {
		if got := field.Sum([]byte(c.text)); got != c.want {
			t.Errorf("P2.2: Sum of %q = %08x, want %08x", c.text, got, c.want)
		}
	}
	if got := field.Sum(); got != 0 {
		t.Errorf("P2.2: Sum of no parts = %08x", got)
	}
}

func TestSumOfEveryByte(t *testing.T) {
	for x := range 256 {
		for _, b := range [][]byte{{byte(x)}, {byte(x), 0}, {0, byte(x)}, {0xff, byte(x), byte(x)}} {
			if got, want := field.Sum(b), checksum(b); got != want {
				t.Errorf("P2.2: Sum of % x = %08x, want %08x", b, got, want)
			}
		}
	}
}

func TestSumOfLongBytes(t *testing.T) {
	for length := range 70 {
		b := drawnBytes(length, length*9)
		got := field.Sum(b)
		if want := checksum(b); got != want || want != crc32.ChecksumIEEE(b) {
			t.Errorf("P2.2: Sum of %d bytes = %08x, want %08x", len(b), got, want)
		}
	}
}

func TestSumKnowsNoParts(t *testing.T) {
	b := drawnBytes(5, 24)
	want := checksum(b)
	for i := range len(b) + 1 {
		for j := i; j <= len(b); j++ {
			if got := field.Sum(b[:i], nil, b[i:j], []byte{}, b[j:]); got != want {
				t.Errorf("P2.2: Sum of parts cut at %d and %d = %08x, want %08x", i, j, got, want)
			}
		}
	}
	var single [][]byte
	for i := range b {
		single = append(single, b[i:i+1])
	}
	if got := field.Sum(single...); got != want {
		t.Errorf("P2.2: Sum byte by byte = %08x, want %08x", got, want)
	}
	if got := field.Sum(b[12:], b[:12]); got == want {
		t.Error("P2.2: Sum does not ask in which order the parts come")
	}
	if got, want := field.Sum(nil, []byte{}, nil), uint32(0); got != want {
		t.Errorf("P2.2: Sum of empty parts = %08x", got)
	}
}

func TestSumChangesNothing(t *testing.T) {
	all := drawnBytes(3, 30)
	before := bytes.Clone(all)
	parts := [][]byte{all[2:8:10], all[12:20:25]}
	field.Sum(parts...)
	if !bytes.Equal(all, before) || len(parts[0]) != 6 || len(parts[1]) != 8 {
		t.Error("P2.1: Sum has changed what it was handed")
	}
}

// turn turns the bits of pattern, which begins at a bit of b.
func turn(b []byte, at int, pattern uint32) {
	for k := range 32 {
		if pattern>>k&1 == 1 {
			b[(at+k)/8] ^= 1 << ((at + k) % 8)
		}
	}
}

func TestTurnedBitsAreSeen(t *testing.T) {
	d := drawn()
	for _, length := range []int{1, 3, 4, 5, 40} {
		b := drawnBytes(length, length)
		whole := field.Sum(b)
		for at := range 8 * length {
			span := min(32, 8*length-at)
			patterns := []uint32{1, 1 << (span - 1), 1 | 1<<(span-1), 0xffffffff >> (32 - span)}
			for range 20 {
				patterns = append(patterns, d.Uint32()>>(32-span))
			}
			for _, pattern := range patterns {
				if pattern == 0 {
					continue
				}
				turned := bytes.Clone(b)
				turn(turned, at, pattern)
				if field.Sum(turned) == whole {
					t.Errorf("P2.11: bits %08x turned from bit %d of %d bytes on are not seen", pattern, at, length)
				}
			}
		}
	}
}

func TestSumOfExclusiveOr(t *testing.T) {
	for length := range 50 {
		a, b := drawnBytes(length, length), drawnBytes(length+100, length)
		both, zeros := make([]byte, length), make([]byte, length)
		for i := range both {
			both[i] = a[i] ^ b[i]
		}
		if got, want := field.Sum(both), field.Sum(a)^field.Sum(b)^field.Sum(zeros); got != want {
			t.Errorf("P2.11: Sum of the exclusive or of %d bytes = %08x, want %08x", length, got, want)
		}
	}
}
