package page_test

import (
	"bytes"
	"encoding/hex"
	"math"
	"strings"
	"testing"

	"quota/api"
	"quota/page"
)

// wantBytes: the page is right, has these bytes, comes back from them, and has a copy.
func wantBytes(t *testing.T, p page.Page, want []byte) {
	t.Helper()
	b, e := page.Encode(p)
	if e != api.OK || !bytes.Equal(b, want) {
		t.Errorf("P7.2: Encode(%+v) = % x, %d, want % x", p, b, e, want)
	}
	back, e := page.Decode(want, p.Number)
	if e != api.OK || !same(back, p) {
		t.Errorf("P7.5: Decode(% x, %d) = %+v, %d, want %+v", want, p.Number, back, e, p)
	}
	if again := p.Copy(); !same(again, p) {
		t.Errorf("P7.4: Copy of %+v is %+v", p, again)
	}
}

func wantRefused(t *testing.T, what string, p page.Page, want api.Errno) {
	t.Helper()
	if b, e := page.Encode(p); e != want || b != nil {
		t.Errorf("P7.2: %s: Encode(%+v) = % x, %d, want %d", what, p, b, e, want)
	}
}

func wantNoDecode(t *testing.T, what string, b []byte, number int, want api.Errno) {
	t.Helper()
	if p, e := page.Decode(b, number); e != want || !zero(p) {
		t.Errorf("%s: Decode(% x, %d) = %+v, %d, want %d", what, b, number, p, e, want)
	}
}

func hexed(t *testing.T, s string) []byte {
	t.Helper()
	b, err := hex.DecodeString(strings.ReplaceAll(s, " ", ""))
	if err != nil {
		t.Fatal(err)
	}
	return b
}

// padded: with zeros, to a page.
func padded(b ...byte) []byte { return append(b, make([]byte, 1024-len(b))...) }

var (
	someone = api.Counter{ID: 1, Group: 1}
	somesum = api.Group{ID: 1}
)

func TestRoom(t *testing.T) {
	if page.Counters != 31 || page.Groups != 84 {
		t.Errorf("a page has room for %d counters or %d groups, want 31 or 84", page.Counters, page.Groups)
	}
}

func TestExamplesOfEncode(t *testing.T) {
	wantBytes(t, page.Page{Number: 3}, make([]byte, 1024))
	for _, c := range []struct {
		what string
		p    page.Page
		want api.Errno
	}{
		{"number 64", page.Page{Number: 64}, api.ErrPlace},
		{"number -1", page.Page{Number: -1}, api.ErrPlace},
		{"LSN 1 of an empty page", page.Page{LSN: 1}, api.ErrField},
		{"LSN 0 of one counter", page.Page{Counters: []api.Counter{someone}}, api.ErrField},
		{"both, and LSN 0", page.Page{Counters: []api.Counter{someone}, Groups: []api.Group{somesum}}, api.ErrKind},
		{"32 counters, all zeros", page.Page{Counters: make([]api.Counter, 32)}, api.ErrFull},
		{"85 groups, all zeros", page.Page{Groups: make([]api.Group, 85)}, api.ErrFull},
		{"Group 0, and bounds", page.Page{LSN: 1, Counters: []api.Counter{{ID: 1, Group: 0, Bounds: api.Range{Lo: 5, Hi: 4}}}}, api.ErrField},
		{"bounds", page.Page{LSN: 1, Counters: []api.Counter{{ID: 1, Group: 1, Bounds: api.Range{Lo: 5, Hi: 4}}}}, api.ErrRange},
	} {
		wantRefused(t, c.what, c.p, c.want)
	}
}

func TestExamplesOfDecode(t *testing.T) {
	p := page.Page{Number: 2, LSN: 258, Groups: []api.Group{{ID: 7, Sum: -1}}}
	want := padded(hexed(t, "71 02 02 00 01 00 00 00 02 01 00 00 00 00 00 00 07 00 00 00 ff ff ff ff ff ff ff ff")...)
	b := summed(want)
	if !bytes.Equal(b[:12], want[:12]) || !bytes.Equal(b[16:], want[16:]) {
		t.Fatal("a checksum elsewhere than in bytes 12 to 15")
	}
	wantBytes(t, p, b)
	wantNoDecode(t, "P7.3: another number", b, 3, api.ErrPage)
	wantNoDecode(t, "P7.3: no number", b, 64, api.ErrPlace)
	wantBytes(t, page.Page{Number: 5}, make([]byte, 1024))
	wantNoDecode(t, "P7.3: 1023 bytes", make([]byte, 1023), 5, api.ErrData)
	wantNoDecode(t, "P7.3: 70 and zeros", padded(0x70), 5, api.ErrMark)
	wantNoDecode(t, "P7.3: 71 and zeros", padded(0x71), 5, api.ErrKind)
}

// TestAPageOfCounters: every byte written out, the checksum too.
func TestAPageOfCounters(t *testing.T) {
	p := page.Page{Number: 63, LSN: math.MaxInt32, Counters: []api.Counter{
		{ID: 0x010203, Group: 0x100000, Bounds: api.Range{Lo: math.MinInt64, Hi: math.MaxInt64}, Value: -2},
		{ID: 1, Group: 0x0f0e0d, Bounds: api.Range{Lo: 0x0102030405060708, Hi: 0x0102030405060708}, Value: 0x1122334455667788},
	}}
	head := "71 01 3f 00 02 00 00 00 ff ff ff 7f"
	slots := "03 02 01 00 00 00 10 00 00 00 00 00 00 00 00 80 ff ff ff ff ff ff ff 7f fe ff ff ff ff ff ff ff" +
		"01 00 00 00 0d 0e 0f 00 08 07 06 05 04 03 02 01 08 07 06 05 04 03 02 01 88 77 66 55 44 33 22 11"
	want := padded(hexed(t, head+"00 00 00 00"+slots)...)
	copy(want[12:], hexed(t, "44 6f 21 2e"))
	wantBytes(t, p, want)
}

func TestEdgesOfEncode(t *testing.T) {
	at := func(lsn int, c ...api.Counter) page.Page { return page.Page{LSN: lsn, Counters: c} }
	sums := func(lsn int, g ...api.Group) page.Page { return page.Page{LSN: lsn, Groups: g} }
	bounds := func(lo, hi int64) api.Counter {
		return api.Counter{ID: 1, Group: 1, Bounds: api.Range{Lo: lo, Hi: hi}}
	}
	for _, number := range []int{math.MinInt, -1 << 32, -1, 64, 65, 256, 1 << 16, 1 << 32, math.MaxInt} {
		wantRefused(t, "number", page.Page{Number: number, LSN: 1, Groups: []api.Group{somesum}}, api.ErrPlace)
	}
	for _, lsn := range []int{math.MinInt, -1, 0, 1 << 31, 1<<32 + 1, math.MaxInt} {
		wantRefused(t, "LSN", at(lsn, someone), api.ErrField)
		wantRefused(t, "LSN", sums(lsn, somesum), api.ErrField)
	}
	for _, lsn := range []int{math.MinInt, -1, 1, math.MaxInt32, 1 << 31, math.MaxInt} {
		wantRefused(t, "LSN of an empty page", page.Page{LSN: lsn}, api.ErrField)
		wantRefused(t, "LSN of an empty page", page.Page{LSN: lsn, Counters: []api.Counter{}, Groups: []api.Group{}}, api.ErrField)
	}
	for _, id := range []int{math.MinInt, -1, 0, 1<<20 + 1, 1 << 31, 1<<32 + 1, math.MaxInt} {
		wantRefused(t, "a counter's ID", at(1, api.Counter{ID: id, Group: 1}), api.ErrField)
		wantRefused(t, "a counter's Group", at(1, api.Counter{ID: 1, Group: id}), api.ErrField)
		wantRefused(t, "a group's ID", sums(1, api.Group{ID: id}), api.ErrField)
	}
	for _, c := range []api.Counter{bounds(1, 0), bounds(0, -1), bounds(math.MaxInt64, math.MinInt64), bounds(math.MaxInt64, math.MaxInt64-1)} {
		wantRefused(t, "bounds", at(1, c), api.ErrRange)
	}
	wantRefused(t, "an empty list is none", page.Page{LSN: 1, Counters: []api.Counter{}, Groups: []api.Group{{}}}, api.ErrField)
	for _, p := range []page.Page{
		{Counters: []api.Counter{}, Groups: []api.Group{}},
		{LSN: 1, Counters: []api.Counter{}, Groups: []api.Group{somesum}},
		{LSN: 1, Counters: []api.Counter{someone}, Groups: []api.Group{}},
		at(1, someone, someone), // an ID may stand twice
		at(1, api.Counter{ID: 1, Group: 1, Bounds: api.Range{Lo: 5, Hi: 5}, Value: 6}), // a value may lie beside its bounds
		at(math.MaxInt32, bounds(math.MinInt64, math.MinInt64), bounds(math.MaxInt64, math.MaxInt64)),
		sums(1, api.Group{ID: 1 << 20, Sum: math.MinInt64}, api.Group{ID: 1, Sum: math.MaxInt64}, api.Group{ID: 1}),
	} {
		wantBytes(t, p, modelBytes(p))
	}
}

// TestOrderOfEncode: a page with two things wrong is told by the one that the chapter names first.
func TestOrderOfEncode(t *testing.T) {
	good := api.Counter{ID: 1, Group: 1}
	wrongs := []struct {
		what string
		make func(*page.Page)
		want api.Errno
	}{
		{"number", func(p *page.Page) { p.Number = 64 }, api.ErrPlace},
		{"both", func(p *page.Page) { p.Groups = []api.Group{{}} }, api.ErrKind},
		{"too many", func(p *page.Page) { p.Counters = append(p.Counters, make([]api.Counter, 32)...) }, api.ErrFull},
		{"LSN", func(p *page.Page) { p.LSN = 0 }, api.ErrField},
		{"bounds of the first", func(p *page.Page) { p.Counters[0].Bounds.Lo = 1 }, api.ErrRange},
		{"ID of the second", func(p *page.Page) { p.Counters[1].ID = 0 }, api.ErrField},
		{"bounds of the second", func(p *page.Page) { p.Counters[1].Bounds.Lo = 1 }, api.ErrRange},
		{"Group of the third", func(p *page.Page) { p.Counters[2].Group = 0 }, api.ErrField},
	}
	for i, a := range wrongs {
		for _, b := range wrongs[i:] {
			p := page.Page{LSN: 1, Counters: []api.Counter{good, good, good}}
			a.make(&p)
			b.make(&p)
			wantRefused(t, a.what+" and "+b.what, p, a.want)
		}
	}
}

func TestOrderOfGroups(t *testing.T) {
	many := page.Page{Number: 64, Groups: make([]api.Group, 85)}
	wantRefused(t, "number, many, LSN", many, api.ErrPlace)
	many.Number, many.Counters = 63, make([]api.Counter, 1)
	wantRefused(t, "both, many, LSN", many, api.ErrKind)
	many.Counters = nil
	wantRefused(t, "many, LSN", many, api.ErrFull)
	wantRefused(t, "LSN and ID", page.Page{Groups: make([]api.Group, 84)}, api.ErrField)
	last := page.Page{LSN: 1, Groups: drawnGroups(drawn(), 84)}
	last.Groups[83].ID = 0
	wantRefused(t, "the last one", last, api.ErrField)
}

// TestDrawnPages: P7.2, P7.4 and P7.5 of right pages of every number.
func TestDrawnPages(t *testing.T) {
	d := drawn()
	for range 8 {
		for _, p := range rightPages(d) {
			if e := modelCheck(p); e != api.OK {
				t.Fatalf("%+v is drawn, which is not right: %d", p, e)
			}
			wantBytes(t, p, modelBytes(p))
		}
	}
}

// TestDrawnWrongPages: a few fields of right pages drawn anew, from numbers around the edges.
func TestDrawnWrongPages(t *testing.T) {
	d := drawn()
	numbers := []int{math.MinInt, -1, 0, 1, 2, 63, 64, 1 << 20, 1<<20 + 1, math.MaxInt32, 1 << 31, 1 << 32, math.MaxInt}
	edge := func() int { return numbers[d.IntN(len(numbers))] }
	met := map[api.Errno]int{}
	for range 30 {
		for _, p := range rightPages(d) {
			for range 1 + d.IntN(3) {
				switch k := d.IntN(7); {
				case k == 0:
					p.Number = edge()
				case k == 1:
					p.LSN = edge()
				case k == 2:
					p.Counters = append(p.Counters, drawnCounters(d, 1+d.IntN(32))...)
				case k == 3:
					p.Groups = append(p.Groups, drawnGroups(d, 1+d.IntN(85))...)
				case len(p.Counters) > 0:
					spoil(&p.Counters[d.IntN(len(p.Counters))], k, edge(), drawn64(d))
				case len(p.Groups) > 0:
					p.Groups[d.IntN(len(p.Groups))].ID = edge()
				}
			}
			want := modelCheck(p)
			met[want]++
			if want == api.OK {
				wantBytes(t, p, modelBytes(p))
			} else {
				wantRefused(t, "drawn", p, want)
			}
		}
	}
	for _, e := range []api.Errno{api.OK, api.ErrPlace, api.ErrKind, api.ErrFull, api.ErrField, api.ErrRange} {
		if met[e] < 100 {
			t.Errorf("of the drawn pages only %d have %d", met[e], e)
		}
	}
}

func spoil(c *api.Counter, k, n int, bound int64) {
	switch k {
	case 4:
		c.ID = n
	case 5:
		c.Group = n
	default:
		c.Bounds.Lo = bound
	}
}
