package field_test

import (
	"bytes"
	"math"
	"math/big"
	"testing"

	"quota/api"
	"quota/field"
)

// found: what stands at a place, as the words of P2.4 say it: the number, how many bytes it has, its fault (but ErrField).
func found(b []byte) (n *big.Int, size int, e api.Errno) {
	end := -1
	for i, x := range b {
		if x < 0x80 {
			end = i
			break
		}
	}
	tenAbove := len(b) >= 10 && (end < 0 || end >= 10)
	switch {
	case tenAbove:
		return nil, 0, api.ErrForm
	case end < 0:
		return nil, 0, api.ErrShort
	case end > 0 && b[end] == 0:
		return nil, 0, api.ErrForm
	case end == 9 && b[end] > 1:
		return nil, 0, api.ErrForm
	}
	n = new(big.Int)
	for i := end; i >= 0; i-- {
		n.Lsh(n, 7).Add(n, big.NewInt(int64(b[i]&0x7f)))
	}
	return n, end + 1, api.OK
}

// signed: the number with a sign that is written as n.
func signed(n *big.Int) int64 {
	half, odd := new(big.Int).DivMod(n, big.NewInt(2), new(big.Int))
	if odd.Sign() == 0 {
		return half.Int64()
	}
	return half.Neg(half).Sub(half, big.NewInt(1)).Int64()
}

func checkFault(t *testing.T, what string, r *field.Reader, at int, e api.Errno) {
	t.Helper()
	if gotAt, got := r.Fault(); gotAt != at || got != e {
		t.Errorf("%s: Fault = %d, %d, want %d, %d", what, gotAt, got, at, e)
	}
}

// checkStays: a reader with a fault answers 0 and keeps its fault, whatever is asked.
func checkStays(t *testing.T, b []byte, r *field.Reader) {
	t.Helper()
	at, e := r.Fault()
	if n := r.U(math.MaxUint64); n != 0 {
		t.Errorf("P2.6: U of % x behind a fault = %d", b, n)
	}
	if n := r.S(); n != 0 {
		t.Errorf("P2.6: S of % x behind a fault = %d", b, n)
	}
	if n := r.U(0); n != 0 {
		t.Errorf("P2.6: U of % x behind a fault = %d", b, n)
	}
	r.End()
	checkFault(t, "P2.6: behind a fault", r, at, e)
}

// checkReader reads b from a byte on, once by U and once by S, and holds both to P2.4; the byte of a fault is told from the whole's first one on.
func checkReader(t *testing.T, ahead, b []byte, limit uint64) {
	t.Helper()
	all := append(bytes.Clone(ahead), b...)
	n, size, e := found(b)
	over := e == api.OK && n.Cmp(new(big.Int).SetUint64(limit)) > 0

	r := field.NewReader(all)
	skip(t, r, ahead)
	got := r.U(limit)
	switch {
	case e != api.OK || over:
		want := e
		if over {
			want = api.ErrField
		}
		if got != 0 {
			t.Errorf("P2.4: U(%d) of % x = %d beside a fault", limit, b, got)
		}
		checkFault(t, "P2.4: U", r, len(ahead), want)
		checkStays(t, b, r)
	case got != n.Uint64():
		t.Errorf("P2.4: U(%d) of % x = %d, want %d", limit, b, got, n)
	default:
		checkEnd(t, r, len(ahead)+size, len(all))
	}

	r = field.NewReader(all)
	skip(t, r, ahead)
	got2 := r.S()
	switch {
	case e != api.OK:
		if got2 != 0 {
			t.Errorf("P2.4: S of % x = %d beside a fault", b, got2)
		}
		checkFault(t, "P2.4: S", r, len(ahead), e)
		checkStays(t, b, r)
	case got2 != signed(n):
		t.Errorf("P2.4: S of % x = %d, want %d", b, got2, signed(n))
	default:
		checkEnd(t, r, len(ahead)+size, len(all))
	}
}

func skip(t *testing.T, r *field.Reader, ahead []byte) {
	t.Helper()
	for _, x := range ahead {
		if n := r.U(0x7f); n != uint64(x) {
			t.Fatalf("P2.4: U of %02x = %d", x, n)
		}
	}
}

func checkEnd(t *testing.T, r *field.Reader, at, length int) {
	t.Helper()
	checkFault(t, "P2.6: ahead of End", r, 0, api.OK)
	r.End()
	if at == length {
		checkFault(t, "P2.5: nothing is left", r, 0, api.OK)
		return
	}
	checkFault(t, "P2.5: something is left", r, at, api.ErrTail)
	checkStays(t, nil, r)
}

func TestExamplesOfReaders(t *testing.T) {
	eighty := func(n int) []byte { return bytes.Repeat([]byte{0x80}, n) }
	for _, c := range []struct {
		b    []byte
		call func(r *field.Reader) []int64
		want []int64
		at   int
		e    api.Errno
	}{
		{nil, func(r *field.Reader) []int64 { return []int64{int64(r.U(9))} }, []int64{0}, 0, api.ErrShort},
		{[]byte{5, 0x80}, func(r *field.Reader) []int64 { return []int64{int64(r.U(9)), int64(r.U(9)), int64(r.U(9))} }, []int64{5, 0, 0}, 1, api.ErrShort},
		{[]byte{0x80, 0}, func(r *field.Reader) []int64 { return []int64{int64(r.U(9))} }, []int64{0}, 0, api.ErrForm},
		{eighty(10), func(r *field.Reader) []int64 { return []int64{int64(r.U(9))} }, []int64{0}, 0, api.ErrForm},
		{eighty(9), func(r *field.Reader) []int64 { return []int64{r.S()} }, []int64{0}, 0, api.ErrShort},
		{append(bytes.Repeat([]byte{0xff}, 9), 2), func(r *field.Reader) []int64 { return []int64{int64(r.U(math.MaxUint64))} }, []int64{0}, 0, api.ErrForm},
		{[]byte{10}, func(r *field.Reader) []int64 { return []int64{int64(r.U(9))} }, []int64{0}, 0, api.ErrField},
		{[]byte{10, 1}, func(r *field.Reader) []int64 { n := r.U(10); r.End(); return []int64{int64(n)} }, []int64{10}, 1, api.ErrTail},
	} {
		r := field.NewReader(c.b)
		got := c.call(r)
		for i, n := range c.want {
			if got[i] != n {
				t.Errorf("P2.4: of % x: %d, want %d", c.b, got, c.want)
			}
		}
		checkFault(t, "P2.4: an example", r, c.at, c.e)
	}
}

// words: all lists of so many bytes out of a few.
func words(of []byte, length int) [][]byte {
	out := [][]byte{nil}
	for range length {
		var longer [][]byte
		for _, w := range out {
			for _, b := range of {
				longer = append(longer, append(bytes.Clone(w), b))
			}
		}
		out = longer
	}
	return out
}

var limits = []uint64{0, 1, 9, 126, 127, 128, 129, 16383, 16384, 1<<63 - 1, 1 << 63, math.MaxUint64 - 1, math.MaxUint64}

func TestReadersOfShortBytes(t *testing.T) {
	for length := range 5 {
		for _, b := range words([]byte{0x00, 0x01, 0x7f, 0x80, 0x81, 0xff}, length) {
			for _, ahead := range [][]byte{nil, {7}, {0, 0x7f, 1}} {
				for _, limit := range limits {
					checkReader(t, ahead, b, limit)
				}
			}
		}
	}
}

// TestReadersOfLongBytes: around the tenth byte, where a form may be too long or beyond 64 bits.
func TestReadersOfLongBytes(t *testing.T) {
	for high := 6; high <= 13; high++ {
		for _, fill := range []byte{0x80, 0x81, 0xff, 0xaa} {
			for _, tail := range words([]byte{0x00, 0x01, 0x02, 0x03, 0x40, 0x7f, 0x80, 0xff}, 2) {
				for cut := range 3 {
					b := append(bytes.Repeat([]byte{fill}, high), tail[:cut]...)
					checkReader(t, nil, b, math.MaxUint64)
					checkReader(t, []byte{3, 3}, b, math.MaxUint64)
					checkReader(t, nil, b, 1<<63)
				}
			}
		}
	}
}

func TestFaultsComeInTheirOrder(t *testing.T) {
	for _, c := range []struct {
		name string
		b    []byte
		e    api.Errno
	}{
		{"ten bytes of 80 and more, and one below", append(bytes.Repeat([]byte{0x80}, 10), 0), api.ErrForm},
		{"a form too long of a number above most", []byte{0x8a, 0x80, 0x00}, api.ErrForm},
		{"ten bytes, the last 00", append(bytes.Repeat([]byte{0xff}, 9), 0), api.ErrForm},
		{"ten bytes, the last 01, above most", append(bytes.Repeat([]byte{0xff}, 9), 1), api.ErrField},
	} {
		r := field.NewReader(c.b)
		r.U(3)
		checkFault(t, "P2.4: "+c.name, r, 0, c.e)
	}
}

func TestMostIsHeldToExactly(t *testing.T) {
	for _, n := range numbers() {
		r := field.NewReader(formOfU(n))
		if got := r.U(n); got != n {
			t.Errorf("P2.4: U(%d) of its own form = %d", n, got)
		}
		checkFault(t, "P2.4: at most", r, 0, api.OK)
		if n > 0 {
			r = field.NewReader(formOfU(n))
			if got := r.U(n - 1); got != 0 {
				t.Errorf("P2.4: U(%d) of the form of %d = %d", n-1, n, got)
			}
			checkFault(t, "P2.4: above most", r, 0, api.ErrField)
		}
	}
}

func TestEndOfNoBytes(t *testing.T) {
	for _, b := range [][]byte{nil, {}} {
		r := field.NewReader(b)
		r.End()
		checkFault(t, "P2.5: no bytes", r, 0, api.OK)
		r.End()
		checkFault(t, "P2.5: no bytes, twice", r, 0, api.OK)
	}
}

func TestEndFindsWhatIsLeftOnce(t *testing.T) {
	r := field.NewReader([]byte{1, 2, 3})
	r.U(9)
	r.End()
	checkFault(t, "P2.5", r, 1, api.ErrTail)
	checkStays(t, nil, r)
	r = field.NewReader([]byte{1})
	r.End()
	checkFault(t, "P2.5: at the first byte", r, 0, api.ErrTail)
}

// TestReadingGoesOnBehindEnd: a reader that stands behind its last byte has no fault, and finds ErrShort if more is asked.
func TestReadingGoesOnBehindEnd(t *testing.T) {
	r := field.NewReader([]byte{1})
	r.U(9)
	r.End()
	if n := r.U(9); n != 0 {
		t.Errorf("P2.4: U behind the last byte = %d", n)
	}
	checkFault(t, "P2.4: behind the last byte", r, 1, api.ErrShort)
}

func TestReadersKeepNothingOfTheCallers(t *testing.T) {
	all := []byte{0xee, 0xac, 0x02, 0x05, 0xee, 0xee}
	b := all[1:4:5]
	r := field.NewReader(b)
	for i := range all {
		all[i] = 0
	}
	if n, m := r.U(300), r.U(5); n != 300 || m != 5 {
		t.Errorf("P2.1: bytes that were handed in are kept: %d, %d", n, m)
	}
	r.End()
	checkFault(t, "P2.1", r, 0, api.OK)
}

func TestReadersChangeNothing(t *testing.T) {
	all := []byte{0xee, 0xac, 0x02, 0x85, 0xee, 0xee}
	before := bytes.Clone(all)
	r := field.NewReader(all[1:4:5])
	r.U(300)
	r.S()
	r.End()
	r.Fault()
	if !bytes.Equal(all, before) {
		t.Errorf("P2.1: a reader has changed what it was handed: % x", all)
	}
}

func TestReadersOfTheSameBytesKnowNothingOfEachOther(t *testing.T) {
	b := []byte{1, 2}
	x, y := field.NewReader(b), field.NewReader(b)
	if n := x.U(9); n != 1 {
		t.Errorf("P2.4: the first reader reads %d", n)
	}
	if n, m := y.U(9), y.U(1); n != 1 || m != 0 {
		t.Errorf("P2.4: the second reader reads %d, %d", n, m)
	}
	if n := x.U(9); n != 2 {
		t.Errorf("P2.4: the first reader reads on %d", n)
	}
	checkFault(t, "P2.6: the first", x, 0, api.OK)
	checkFault(t, "P2.6: the second", y, 1, api.ErrField)
}

func TestThereAndBack(t *testing.T) {
	d := drawn()
	for range 300 {
		var us []uint64
		var ss []int64
		w := field.NewWriter()
		for range d.IntN(20) {
			u := edges()[d.IntN(len(edges()))]
			s := int64(d.Uint64()) >> d.IntN(64)
			us, ss = append(us, u), append(ss, s)
			w.U(u)
			w.S(s)
		}
		r := field.NewReader(w.Out())
		for i := range us {
			limit := max(us[i], d.Uint64()) // no less than the number
			if u, s := r.U(limit), r.S(); u != us[i] || s != ss[i] {
				t.Fatalf("P2.8: %d, %d read behind %d, %d written", u, s, us[i], ss[i])
			}
		}
		r.End()
		checkFault(t, "P2.8", r, 0, api.OK)
	}
	for _, n := range signedNumbers() {
		r := field.NewReader(writtenS(n))
		if got := r.S(); got != n {
			t.Errorf("P2.8: S(%d) is read as %d", n, got)
		}
		r.End()
		checkFault(t, "P2.8", r, 0, api.OK)
	}
}

// rewritten: reads all of b, by U and S in turns from start on, and writes it anew; false, if the reader has a fault.
func rewritten(b []byte, start int) ([]byte, bool) {
	r, w := field.NewReader(b), field.NewWriter()
	for i := start; len(w.Out()) < len(b); i++ {
		if i%2 == 0 {
			w.U(r.U(math.MaxUint64))
		} else {
			w.S(r.S())
		}
		if _, e := r.Fault(); e != api.OK {
			return nil, false
		}
	}
	r.End()
	_, e := r.Fault()
	return w.Out(), e == api.OK
}

func TestOneForm(t *testing.T) {
	var all [][]byte
	for length := range 6 {
		all = append(all, words([]byte{0x00, 0x01, 0x7f, 0x80, 0xff}, length)...)
	}
	for high := 7; high < 11; high++ {
		for _, tail := range words([]byte{0x00, 0x01, 0x02, 0x80, 0xff}, 3) {
			all = append(all, append(bytes.Repeat([]byte{0x80}, high), tail...), append(bytes.Repeat([]byte{0xff}, high), tail...))
		}
	}
	taken := 0
	for _, b := range all {
		for start := range 2 {
			again, ok := rewritten(b, start)
			if ok {
				taken++
			}
			if ok && !bytes.Equal(again, b) {
				t.Errorf("P2.9: % x is read whole, and written as % x", b, again)
			}
		}
	}
	if taken < 100 {
		t.Errorf("P2.9: of %d only %d were read at all", len(all), taken)
	}
}

func TestCut(t *testing.T) {
	for _, n := range numbers() {
		form := writtenU(n)
		for keep := range form {
			cut := form[:keep]
			r := field.NewReader(cut)
			if got := r.U(math.MaxUint64); got != 0 {
				t.Errorf("P2.10: U of % x = %d", cut, got)
			}
			checkFault(t, "P2.10: U", r, 0, api.ErrShort)
			r = field.NewReader(cut)
			if got := r.S(); got != 0 {
				t.Errorf("P2.10: S of % x = %d", cut, got)
			}
			checkFault(t, "P2.10: S", r, 0, api.ErrShort)
		}
	}
}
