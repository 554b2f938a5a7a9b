package record_test

import (
	"bytes"
	"slices"
	"testing"

	"quota/api"
	"quota/record"
)

// full: a checkpoint whose lists have spare room, of which all is known.
func full() (r api.Record, live []api.Live, dirty []api.Dirty) {
	live = []api.Live{{Tx: 90}, {Tx: 3, Last: 7, Committed: true}, {Tx: 5, Last: 9}, {Tx: 91}, {Tx: 92}}
	dirty = []api.Dirty{{Page: 50}, {Page: 1, Since: 2}, {Page: 2, Since: 4}, {Page: 51}, {Page: 52}}
	return point(6, live[1:3:5], dirty[1:3:5]), live, dirty
}

func TestNothingHandedInIsChanged(t *testing.T) {
	r, live, dirty := full()
	wasLive, wasDirty := slices.Clone(live), slices.Clone(dirty)
	for _, change := range []func(){func() {}, func() { r.LSN = 1 }, func() { r.Kind = 0 }} {
		change()
		record.Check(r)
		record.Encode(r)
		if !slices.Equal(live, wasLive) || !slices.Equal(dirty, wasDirty) || len(r.Points.Live) != 2 || len(r.Points.Dirty) != 2 {
			t.Errorf("P5.1: a record that was handed in is changed: %v, %v", live, dirty)
		}
	}
	all := append([]byte{0xee}, append(modelBytes(example(api.Checkpoint)), 0xdd, 0xcc)...)
	was := bytes.Clone(all)
	record.Decode(all[1 : len(all)-2])
	record.Decode(all[1 : len(all)-1])
	if !bytes.Equal(all, was) {
		t.Errorf("P5.1: bytes that were handed in are changed: % x", all)
	}
}

func TestNothingHandedInIsKept(t *testing.T) {
	r, live, dirty := full()
	b, _ := record.Encode(r)
	want := modelBytes(r)
	clear(live)
	clear(dirty)
	if !bytes.Equal(b, want) {
		t.Errorf("P5.1: Encode's bytes change with the record: % x", b)
	}
	got, e := record.Decode(b)
	whole, _, _ := full()
	clear(b[:cap(b)])
	if e != api.OK || !same(got, whole) {
		t.Errorf("P5.1: Decode's record changes with the bytes: %+v, %d", got, e)
	}
}

func TestWhatIsHandedOutIsNew(t *testing.T) {
	r, _, _ := full()
	want := modelBytes(r)
	x, _ := record.Encode(r)
	y, _ := record.Encode(r)
	clear(x[:cap(x)])
	if !bytes.Equal(y, want) {
		t.Errorf("P5.1: two answers of Encode share memory: % x", y)
	}
	one, _ := record.Decode(want)
	two, _ := record.Decode(want)
	clear(one.Points.Live[:cap(one.Points.Live)])
	clear(one.Points.Dirty[:cap(one.Points.Dirty)])
	if !same(two, r) {
		t.Errorf("P5.1: two answers of Decode share memory: %+v", two)
	}
	if again, e := record.Decode(want); e != api.OK || !same(again, r) {
		t.Errorf("P5.1: Decode keeps what it has handed out: %+v, %d", again, e)
	}
}
