package record_test

import (
	"bytes"
	"encoding/hex"
	"math"
	"reflect"
	"slices"
	"strings"
	"testing"

	"quota/api"
	"quota/record"
)

func hexed(t *testing.T, s string) []byte {
	t.Helper()
	b, err := hex.DecodeString(strings.ReplaceAll(s, " ", ""))
	if err != nil {
		t.Fatal(err)
	}
	return b
}

// same: but that an empty list and nil are one.
func same(a, b api.Record) bool {
	ok := slices.Equal(a.Points.Live, b.Points.Live) && slices.Equal(a.Points.Dirty, b.Points.Dirty)
	a.Points.Live, b.Points.Live, a.Points.Dirty, b.Points.Dirty = nil, nil, nil, nil
	return ok && reflect.DeepEqual(a, b)
}

// wantBytes: the record may be one, has these bytes, and comes back from them.
func wantBytes(t *testing.T, r api.Record, want []byte) {
	t.Helper()
	if e := record.Check(r); e != api.OK {
		t.Errorf("P5.2: Check(%+v) = %d", r, e)
	}
	b, e := record.Encode(r)
	if e != api.OK || !bytes.Equal(b, want) {
		t.Errorf("P5.3: Encode(%+v) = % x, %d, want % x", r, b, e, want)
	}
	if len(b) > 502 {
		t.Errorf("P5.7: Encode(%+v) has %d bytes", r, len(b))
	}
	back, e := record.Decode(want)
	r.LSN = 0
	if e != api.OK || !same(back, r) {
		t.Errorf("P5.5: Decode(% x) = %+v, %d, want %+v", want, back, e, r)
	}
}

// wantRefused: by Check and Encode alike.
func wantRefused(t *testing.T, what string, r api.Record, want api.Errno) {
	t.Helper()
	if e := record.Check(r); e != want {
		t.Errorf("P5.2: %s: Check(%+v) = %d, want %d", what, r, e, want)
	}
	if b, e := record.Encode(r); e != want || len(b) != 0 {
		t.Errorf("P5.3: %s: Encode(%+v) = % x, %d, want %d", what, r, b, e, want)
	}
}

func wantNoDecode(t *testing.T, what string, b []byte, want api.Errno) {
	t.Helper()
	r, e := record.Decode(b)
	if e != want || !reflect.DeepEqual(r, api.Record{}) {
		t.Errorf("%s: Decode(% x) = %+v, %d, want %d", what, b, r, e, want)
	}
}

// wantDecode: as the model says, and if it is a record, one form alone (P5.5).
func wantDecode(t *testing.T, b []byte) api.Errno {
	t.Helper()
	want, e := modelDecode(b)
	if e != api.OK {
		wantNoDecode(t, "P5.4", b, e)
		return e
	}
	r, e := record.Decode(b)
	if e != api.OK || r.LSN != 0 || !same(r, want) {
		t.Errorf("P5.4: Decode(% x) = %+v, %d, want %+v", b, r, e, want)
		return e
	}
	if again, e := record.Encode(r); e != api.OK || !bytes.Equal(again, b) {
		t.Errorf("P5.5: Decode(% x) is a record, which Encode makes % x, %d", b, again, e)
	}
	return api.OK
}

var (
	where = api.Slot{Page: 0, Index: 3}
	sums  = api.Slot{Page: 1, Index: 0}
)

func example(kind api.Kind) api.Record {
	switch kind {
	case api.Begin:
		return api.Record{Kind: kind, Tx: 5}
	case api.Create:
		return api.Record{Kind: kind, Where: where, Sums: sums, Counter: api.Counter{ID: 7, Group: 2, Bounds: api.Range{Lo: -1, Hi: 300}, Value: 64}}
	case api.Add, api.Undo:
		return api.Record{Kind: kind, Tx: 5, Prev: 9, Where: where, Sums: sums, Counter: api.Counter{ID: 7}, Delta: -3}
	case api.Commit, api.Abort, api.End:
		return api.Record{Kind: kind, Tx: 5, Prev: 300}
	}
	return api.Record{Kind: kind, Points: api.Points{
		Next: 6, Live: []api.Live{{Tx: 5, Last: 9, Undoing: true}}, Dirty: []api.Dirty{{Page: 0, Since: 4}},
	}}
}

func TestExamplesOfBytes(t *testing.T) {
	commit := example(api.Commit)
	commit.LSN = 301
	for _, c := range []struct {
		r    api.Record
		want string
	}{
		{example(api.Begin), "01 05"},
		{example(api.Create), "02 00 03 01 00 07 02 01 d8 04 80 01"},
		{example(api.Add), "03 05 09 00 03 01 00 07 05"},
		{commit, "05 05 ac 02"},
		{api.Record{Kind: api.Checkpoint, Points: api.Points{Next: 1}}, "08 01 00 00"},
		{api.Record{Kind: api.Checkpoint, Points: api.Points{Next: 1, Live: []api.Live{}, Dirty: []api.Dirty{}}}, "08 01 00 00"},
		{example(api.Checkpoint), "08 06 01 05 09 02 01 00 04"},
		{api.Record{Kind: api.Begin, Tx: 5, LSN: 44}, "01 05"},
		{example(api.Undo), "04 05 09 00 03 01 00 07 05"},
		{example(api.Abort), "06 05 ac 02"},
		{example(api.End), "07 05 ac 02"},
	} {
		wantBytes(t, c.r, hexed(t, c.want))
	}
}

func TestExamplesOfRefusals(t *testing.T) {
	for _, c := range []struct {
		b    string
		want api.Errno
	}{
		{"", api.ErrShort}, {"00", api.ErrKind}, {"09", api.ErrKind}, {"01", api.ErrShort},
		{"01 05 00", api.ErrTail}, {"01 85 00", api.ErrForm}, {"01 00", api.ErrField}, {"08 01 21", api.ErrField},
	} {
		wantNoDecode(t, "P5.4: an example", hexed(t, c.b), c.want)
	}
	wantNoDecode(t, "P5.4: nil", nil, api.ErrShort)
	wantRefused(t, "Begin with Prev", api.Record{Kind: api.Begin, Tx: 5, Prev: 1}, api.ErrField)
	wantRefused(t, "Prev is the LSN", api.Record{Kind: api.Commit, Tx: 5, Prev: 9, LSN: 9}, api.ErrField)
	add := example(api.Add)
	add.Counter.Group = 1
	wantRefused(t, "Add with a group", add, api.ErrField)
	create := example(api.Create)
	create.Sums.Page = create.Where.Page
	wantRefused(t, "one page", create, api.ErrField)
	wantRefused(t, "no kind", api.Record{Tx: -1}, api.ErrKind)
}

// TestDrawnRecords: P5.5, P5.6 and P5.7 of records of every kind.
func TestDrawnRecords(t *testing.T) {
	d := drawn()
	for _, kind := range every {
		for range 3000 {
			r := drawnRecord(d, kind)
			if e := modelCheck(r); e != api.OK {
				t.Fatalf("%+v is drawn, which may not be one", r)
			}
			wantBytes(t, r, modelBytes(r))
		}
	}
}

func TestCutAndLengthened(t *testing.T) {
	d := drawn()
	for _, kind := range every {
		for range 300 {
			b, _ := record.Encode(drawnRecord(d, kind))
			for k := range b {
				wantNoDecode(t, "P5.6: cut", b[:k:k], api.ErrShort)
			}
			for _, x := range []byte{0x00, 0x01, 0x7f, 0x80, 0xff} {
				wantNoDecode(t, "P5.6: one byte more", append(bytes.Clone(b), x), api.ErrTail)
			}
		}
	}
}

// TestTheLongest: of the numbers with the most bytes as many as may be.
func TestTheLongest(t *testing.T) {
	point := api.Record{Kind: api.Checkpoint, Points: api.Points{Next: api.MaxTx + 1}}
	for i := range 32 {
		point.Points.Live = append(point.Points.Live, api.Live{Tx: api.MaxTx - 31 + i, Last: api.MaxLSN, Undoing: true})
	}
	for i := range 16 {
		point.Points.Dirty = append(point.Points.Dirty, api.Dirty{Page: 48 + i, Since: api.MaxLSN})
	}
	wantBytes(t, point, modelBytes(point))
	create := api.Record{Kind: api.Create, Where: api.Slot{Page: 63, Index: 30}, Sums: api.Slot{Page: 62, Index: 83}, Counter: api.Counter{
		ID: api.MaxCounter, Group: api.MaxGroup, Bounds: api.Range{Lo: math.MinInt64, Hi: math.MaxInt64}, Value: math.MinInt64,
	}}
	wantBytes(t, create, modelBytes(create))
	add := api.Record{Kind: api.Add, Tx: api.MaxTx, Prev: api.MaxLSN, Where: create.Where, Sums: create.Sums, Counter: api.Counter{ID: api.MaxCounter}, Delta: math.MinInt64}
	wantBytes(t, add, modelBytes(add))
}

func TestTheLSNIsNotAmongTheBytes(t *testing.T) {
	for _, kind := range every {
		r := example(kind)
		want := modelBytes(r)
		for _, lsn := range []int{0, 301, 302, 1 << 20, api.MaxLSN} {
			r.LSN = lsn
			wantBytes(t, r, want)
		}
	}
}
