package field_test

import (
	"bytes"
	"encoding/binary"
	"encoding/hex"
	"math"
	"math/big"
	"math/rand/v2"
	"strings"
	"testing"

	"quota/api"
	"quota/field"
)

const most = math.MaxUint64

// drawn: numbers that look drawn but are the same in every run.
func drawn() *rand.Rand { return rand.New(rand.NewPCG(2, 0)) }

func of(t *testing.T, text string) []byte {
	t.Helper()
	b, err := hex.DecodeString(strings.ReplaceAll(text, " ", ""))
	if err != nil {
		t.Fatal(err)
	}
	return b
}

// edges: where a form gets one byte longer, and what stands around.
func edges() []uint64 {
	out := []uint64{0, 1, 2, 63, 64, 65, 300, most - 1, most}
	for k := 7; k < 64; k += 7 {
		out = append(out, 1<<k-1, 1<<k, 1<<k+1)
	}
	for k := 8; k < 64; k += 8 {
		out = append(out, 1<<k-1, 1<<k, 1<<k+1)
	}
	return append(out, 1<<63-1, 1<<63, 1<<63+1)
}

func signedEdges() []int64 {
	out := []int64{math.MinInt64, math.MinInt64 + 1, math.MaxInt64 - 1, math.MaxInt64}
	for _, n := range edges() {
		out = append(out, int64(n), -int64(n), int64(n>>1), -int64(n>>1)-1)
	}
	return out
}

// numbers: the edges, and numbers of every length.
func numbers() []uint64 {
	d := drawn()
	out := edges()
	for range 500 {
		out = append(out, d.Uint64()>>d.IntN(64))
	}
	return out
}

func signedNumbers() []int64 {
	d := drawn()
	out := signedEdges()
	for range 500 {
		out = append(out, int64(d.Uint64())>>d.IntN(64))
	}
	return out
}

// formOf: the chapter's form, its groups of seven taken off by division.
func formOf(n *big.Int) []byte {
	rest, low, step := new(big.Int).Set(n), new(big.Int), big.NewInt(128)
	var out []byte
	for {
		rest.DivMod(rest, step, low)
		b := byte(low.Int64())
		if rest.Sign() == 0 {
			return append(out, b)
		}
		out = append(out, b+128)
	}
}

func formOfU(n uint64) []byte { return formOf(new(big.Int).SetUint64(n)) }

// formOfS: 2n, or -2n - 1, as whole numbers without bound.
func formOfS(n int64) []byte {
	twice := new(big.Int).Lsh(big.NewInt(n), 1)
	if n < 0 {
		twice.Neg(twice).Sub(twice, big.NewInt(1))
	}
	return formOf(twice)
}

func writtenU(n uint64) []byte {
	w := field.NewWriter()
	w.U(n)
	return w.Out()
}

func writtenS(n int64) []byte {
	w := field.NewWriter()
	w.S(n)
	return w.Out()
}

func TestExamplesOfForms(t *testing.T) {
	for _, c := range []struct {
		n    uint64
		form string
	}{
		{0, "00"}, {127, "7f"}, {128, "80 01"}, {300, "ac 02"}, {most, "ff ff ff ff ff ff ff ff ff 01"},
	} {
		if got := writtenU(c.n); !bytes.Equal(got, of(t, c.form)) {
			t.Errorf("P2.3: U(%d) writes % x, want %s", c.n, got, c.form)
		}
	}
	for _, c := range []struct {
		n    int64
		form string
	}{
		{0, "00"}, {-1, "01"}, {1, "02"}, {-64, "7f"}, {64, "80 01"},
		{math.MaxInt64, "fe ff ff ff ff ff ff ff ff 01"}, {math.MinInt64, "ff ff ff ff ff ff ff ff ff 01"},
	} {
		if got := writtenS(c.n); !bytes.Equal(got, of(t, c.form)) {
			t.Errorf("P2.3: S(%d) writes % x, want %s", c.n, got, c.form)
		}
	}
}

func TestEveryNumberHasItsForm(t *testing.T) {
	for _, n := range numbers() {
		want := formOfU(n)
		if got := writtenU(n); !bytes.Equal(got, want) || !bytes.Equal(got, binary.AppendUvarint(nil, n)) {
			t.Errorf("P2.3: U(%d) writes % x, want % x", n, got, want)
		}
	}
	for _, n := range signedNumbers() {
		want := formOfS(n)
		if got := writtenS(n); !bytes.Equal(got, want) || !bytes.Equal(got, binary.AppendVarint(nil, n)) {
			t.Errorf("P2.3: S(%d) writes % x, want % x", n, got, want)
		}
	}
}

func TestNothingWrittenIsNoBytes(t *testing.T) {
	if got := field.NewWriter().Out(); len(got) != 0 {
		t.Errorf("P2.3: Out of a new writer = % x", got)
	}
}

func TestMoreIsWrittenBehindOut(t *testing.T) {
	w := field.NewWriter()
	var want []byte
	signed := signedNumbers()
	for i, n := range numbers() {
		w.U(n)
		want = append(want, formOfU(n)...)
		w.S(signed[i])
		want = append(want, formOfS(signed[i])...)
		if got := w.Out(); !bytes.Equal(got, want) {
			t.Fatalf("P2.3: Out behind %d numbers is not their forms in their order", 2*(i+1))
		}
	}
}

func TestWritersKnowNothingOfEachOther(t *testing.T) {
	a, b := field.NewWriter(), field.NewWriter()
	a.U(1)
	b.U(2)
	a.U(3)
	b.S(-1)
	if x, y := a.Out(), b.Out(); !bytes.Equal(x, []byte{1, 3}) || !bytes.Equal(y, []byte{2, 1}) {
		t.Errorf("P2.3: two writers answer % x and % x", x, y)
	}
}

func TestOutIsNewMemory(t *testing.T) {
	w := field.NewWriter()
	for n := range uint64(40) {
		w.U(n)
		a, b := w.Out(), w.Out()
		for _, out := range [][]byte{a[:cap(a)], b[:cap(b)]} {
			for i := range out {
				out[i] = 0xee
			}
		}
		w.U(n)
		for _, x := range a[:cap(a)] {
			if x != 0xee {
				t.Fatal("P2.1: a writer writes into what it has handed out")
			}
		}
		a = a[:cap(a)]
		for i := range a {
			a[i] = 0x11
		}
		for _, x := range b[:cap(b)] {
			if x != 0xee {
				t.Fatal("P2.1: two answers of Out share memory")
			}
		}
	}
	for i, x := range w.Out() {
		if x != byte(i/2) {
			t.Fatalf("P2.1: what was written into an answer is seen: % x", w.Out())
		}
	}
}

// placeIsThere: P2.7's words, in whole numbers without bound.
func placeIsThere(length, at, size int) bool {
	end := new(big.Int).Add(big.NewInt(int64(at)), big.NewInt(int64(size)))
	return size >= 1 && size <= 8 && at >= 0 && end.Cmp(big.NewInt(int64(length))) <= 0
}

// places: every place in and around some bytes, and those whose sums would wrap.
func places(length int) []int {
	out := []int{math.MinInt, math.MinInt + 1, math.MinInt + 8, math.MaxInt - 8, math.MaxInt - 7, math.MaxInt - 1, math.MaxInt}
	for at := -9; at <= length+9; at++ {
		out = append(out, at)
	}
	return out
}

func TestExamplesOfPutAndGet(t *testing.T) {
	b := of(t, "aa bb cc dd")
	if e := field.Put(b, 1, 2, 258); e != api.OK || !bytes.Equal(b, of(t, "aa 02 01 dd")) {
		t.Errorf("P2.7: Put of 258 = %d, % x", e, b)
	}
	for _, c := range []struct {
		at, size int
		n        uint64
		e        api.Errno
	}{
		{1, 2, 258, api.OK}, {3, 2, 0, api.ErrPlace}, {1, 0, 0, api.ErrPlace},
	} {
		if n, e := field.Get(b, c.at, c.size); n != c.n || e != c.e {
			t.Errorf("P2.7: Get at %d, size %d = %d, %d, want %d, %d", c.at, c.size, n, e, c.n, c.e)
		}
	}
	for at, want := range map[int]api.Errno{0: api.ErrField, -1: api.ErrPlace, math.MaxInt: api.ErrPlace} {
		if e := field.Put(b, at, 1, 256); e != want {
			t.Errorf("P2.7: Put of 256 at %d = %d, want %d", at, e, want)
		}
	}
	if !bytes.Equal(b, of(t, "aa 02 01 dd")) {
		t.Errorf("P2.7: a Put that is refused has written: % x", b)
	}
}

func TestPutAndGetAtEveryPlace(t *testing.T) {
	sizes := []int{math.MinInt, -8, -1, 0, 1, 2, 3, 4, 5, 6, 7, 8, 9, 10, 16, 64, math.MaxInt}
	values := []uint64{0, 1, 255, 256, 0x0807060504030201, 1<<63 - 1, 1 << 63, most - 1, most}
	for k := 8; k < 64; k += 8 {
		values = append(values, 1<<k-1, 1<<k)
	}
	for length := range 18 {
		for _, at := range places(length) {
			for _, size := range sizes {
				for _, n := range values {
					checkPut(t, length, at, size, n)
				}
			}
		}
	}
}

// checkPut lays the bytes into greater ones, so that a write beside them is seen, spare room too.
func checkPut(t *testing.T, length, at, size int, n uint64) {
	t.Helper()
	before := make([]byte, length+40)
	for i := range before {
		before[i] = byte(0xa0 + i)
	}
	all := bytes.Clone(before)
	b := all[16 : 16+length : 32+length]
	e := field.Put(b, at, size, n)
	there := placeIsThere(length, at, size)
	switch {
	case !there && e != api.ErrPlace:
		t.Errorf("P2.7: Put(%d bytes, at %d, size %d, %d) = %d, want ErrPlace", length, at, size, n, e)
	case there && size < 8 && n >= 1<<(8*size) && e != api.ErrField:
		t.Errorf("P2.7: Put(%d bytes, at %d, size %d, %d) = %d, want ErrField", length, at, size, n, e)
	case there && (size == 8 || n < 1<<(8*size)) && e != api.OK:
		t.Errorf("P2.7: Put(%d bytes, at %d, size %d, %d) = %d, want OK", length, at, size, n, e)
	}
	want := before
	if e == api.OK && there {
		var low [8]byte
		binary.LittleEndian.PutUint64(low[:], n)
		copy(want[16+at:], low[:size])
	}
	if !bytes.Equal(all, want) {
		t.Fatalf("P2.7: Put(%d bytes, at %d, size %d, %d) leaves % x, want % x", length, at, size, n, all, want)
	}
	checkGet(t, all, b, at, size)
	if got, back := field.Get(b, at, size); e == api.OK && (got != n || back != api.OK) {
		t.Errorf("P2.8: Get behind Put(%d bytes, at %d, size %d, %d) = %d, %d", length, at, size, n, got, back)
	}
}

func checkGet(t *testing.T, all, b []byte, at, size int) {
	t.Helper()
	before := bytes.Clone(all)
	got, e := field.Get(b, at, size)
	if !bytes.Equal(all, before) {
		t.Fatalf("P2.1: Get has changed what it was handed")
	}
	if !placeIsThere(len(b), at, size) {
		if got != 0 || e != api.ErrPlace {
			t.Errorf("P2.7: Get(%d bytes, at %d, size %d) = %d, %d, want 0, ErrPlace", len(b), at, size, got, e)
		}
		return
	}
	var low [8]byte
	copy(low[:], b[at:at+size])
	if want := binary.LittleEndian.Uint64(low[:]); got != want || e != api.OK {
		t.Errorf("P2.7: Get(% x, at %d, size %d) = %d, %d, want %d, OK", b, at, size, got, e, want)
	}
}

func TestPutAndGetOfNoBytes(t *testing.T) {
	for _, b := range [][]byte{nil, {}, make([]byte, 0, 8)} {
		if e := field.Put(b, 0, 1, 0); e != api.ErrPlace {
			t.Errorf("P2.7: Put into no bytes = %d", e)
		}
		if n, e := field.Get(b, 0, 1); n != 0 || e != api.ErrPlace {
			t.Errorf("P2.7: Get of no bytes = %d, %d", n, e)
		}
	}
}
