package audit_test

import (
	"bytes"
	"reflect"
	"slices"
	"testing"

	"quota/api"
	"quota/audit"
	"quota/page"
)

var small = api.Shape{Pages: 2, Log: 4, Frames: 2}

// story: of a store of three pages: counters on 0 and 2, sums on 1.
//
//	1 create 7 of group 2, value 5
//	2 begin 1
//	3 add 4 to 7 by 1
//	4 create 3 of group 1, value 1, on page 2
//	5 add -1 to 3 by 1
//	6 undo of 7's 4
//	7 checkpoint
func story(t *testing.T) *hand {
	t.Helper()
	h := blank(t, api.Shape{Pages: 3, Log: 9, Frames: 2})
	h.log(records()...)
	return h
}

func records() []api.Record {
	return []api.Record{
		create(slot(0, 0), slot(1, 0), counter(7, 2, 0, 10, 5)),
		begin(1),
		add(1, 2, slot(0, 0), slot(1, 0), 7, 4),
		create(slot(2, 0), slot(1, 1), counter(3, 1, -9, 9, 1)),
		add(1, 3, slot(2, 0), slot(1, 1), 3, -1),
		undo(1, 5, slot(0, 0), slot(1, 0), 7, 4),
		{Kind: api.Checkpoint, Points: api.Points{Live: []api.Live{{Tx: 1, Last: 6, Undoing: true}}, Dirty: []api.Dirty{{Page: 1, Since: 3}}, Next: 2}},
	}
}

// wantError: of both calls, with zero values beside.
func wantError(t *testing.T, why string, image []byte, want api.Errno) {
	t.Helper()
	if r, e := audit.Look(image); e != want || !reflect.DeepEqual(r, audit.Report{}) {
		t.Errorf("P22.2: Look of %s = %v, %d, want %d", why, r, e, want)
	}
	if ok, e := audit.Clean(image); ok || e != want {
		t.Errorf("P22.4: Clean of %s = %v, %d, want %d", why, ok, e, want)
	}
}

// TestExamplesOfImages: the chapter's.
func TestExamplesOfImages(t *testing.T) {
	wantError(t, "no bytes", nil, api.ErrImage)
	wantError(t, "no bytes, with room", make([]byte, 0, 512), api.ErrImage)
	wantError(t, "511 bytes", make([]byte, 511), api.ErrImage)
	wantError(t, "512 zeros", make([]byte, 512), api.ErrMaster)
	h := blank(t, small)
	if r, e := audit.Look(h.image); e != api.OK || r.Shape != small || r.Point != 0 || r.Finish || len(r.Records)+len(r.Counters)+len(r.Groups)+len(r.Ahead)+len(r.Torn) != 0 {
		t.Errorf("P22.2: Look of a new disk = %v, %d", r, e)
	}
	h.wantClean(true, "a new disk")
	h.image[3000] = 1
	h.wantClean(false, "byte 3000")
	if r := h.look(); !slices.Equal(r.Torn, []int{0}) || len(r.Ahead) != 0 {
		t.Errorf("P22.2: with byte 3000: torn %v, ahead %v", r.Torn, r.Ahead)
	}
}

// TestSizes: of images without a master.
func TestSizes(t *testing.T) {
	for _, c := range []struct {
		size int
		want api.Errno
	}{{1, api.ErrImage}, {513, api.ErrImage}, {1023, api.ErrImage}, {1024, api.ErrMaster}, {13 * 512, api.ErrMaster}, {api.MaxSectors * 512, api.ErrMaster}, {api.MaxSectors*512 + 1, api.ErrImage}, {(api.MaxSectors + 1) * 512, api.ErrImage}} {
		wantError(t, "many zeros", make([]byte, c.size), c.want)
	}
	h := blank(t, small)
	wantError(t, "a sector too few", h.image[:12*512], api.ErrMaster)
	wantError(t, "a byte too few", h.image[:13*512-1], api.ErrImage)
	wantError(t, "a sector more", append(slices.Clone(h.image), make([]byte, 512)...), api.ErrMaster)
}

// TestErrorsInOrder: the image has all faults; one behind the other is mended.
func TestErrorsInOrder(t *testing.T) {
	h := story(t)
	h.raw(2, []byte{1, 5, 0})
	clear(h.sector(1))
	h.sector(2)[511] = 1
	wantError(t, "all faults, and a byte too many", append(slices.Clone(h.image), 0), api.ErrImage)
	wantError(t, "all faults", h.image, api.ErrMaster)
	h.slot(1, 0)
	wantError(t, "a twin's and a record's", h.image, api.ErrTwin)
	h.sector(2)[511] = 0
	wantError(t, "a record's", h.image, api.ErrLog)
	h.log(records()...)
	if r := h.look(); len(r.Records) != 7 {
		t.Errorf("P22.2: mended: %v", r)
	}
}

// TestMarkers that make no sense, and such as stand.
func TestMarkers(t *testing.T) {
	for _, c := range []struct {
		home  int
		sense bool
	}{{0, true}, {1, false}, {2, false}, {4, false}, {5, true}, {11, true}, {19, false}, {18, true}, {256, false}} {
		h := story(t)
		keep := make([]byte, 1024)
		copy(keep, h.image[min(c.home, 18)*512:])
		h.marker(c.home, keep)
		if !c.sense {
			wantError(t, "a home that is none", h.image, api.ErrTwin)
			continue
		}
		if r := h.look(); !r.Finish || len(r.Records) != 7 {
			t.Errorf("P22.2: home %d: Look = %v", c.home, r)
		}
		h.wantClean(true, "a marker of what stands there")
		h.sector(2)[100] = 1
		wantError(t, "a marker with a byte too many", h.image, api.ErrTwin)
		h.sector(2)[511] = 0
		if r := h.look(); r.Finish {
			t.Errorf("P22.2: a marker that doesn't stand: Finish")
		}
	}
}

// TestLayoutIsReadFirst: the twin's home may be the master's.
func TestLayoutIsReadFirst(t *testing.T) {
	h := story(t)
	h.slot(2, 7)
	h.slot(3, 4)
	other := blank(t, api.Shape{Pages: 4, Log: 7, Frames: 3})
	other.slot(4, 6)
	for _, b := range [][]byte{other.image[:1024], make([]byte, 1024)} {
		h.marker(0, b)
		if r := h.look(); r.Shape != h.shape || r.Point != 4 || !r.Finish || len(r.Records) != 7 {
			t.Errorf("P22.2: Look = %v", r)
		}
		h.wantClean(true, "another master in the twin")
	}
}

// TestTwinIsFinishedAheadOfAllElse: of the log and of the pages.
func TestTwinIsFinishedAheadOfAllElse(t *testing.T) {
	h := story(t)
	first := 5 + 2*h.shape.Pages
	h.pages(ofCounters(0, 1, counter(7, 2, 0, 10, 5)))
	h.marker(5, h.bytes(ofCounters(0, 3, counter(7, 2, 0, 10, 9))))
	if r := h.look(); !r.Finish || len(r.Counters) != 1 || r.Counters[0].Value != 9 {
		t.Errorf("P22.2: the twin has page 0: %v", r)
	}
	h.wantClean(true, "the twin has a younger page")
	clear(h.sector(5))
	h.wantClean(true, "the twin has a page that is torn at home")
	h.marker(5, h.bytes(ofCounters(0, 3, counter(7, 2, 0, 10, 8))))
	h.wantClean(false, "the twin has a page that isn't right")
	h.marker(first+2, make([]byte, 1024))
	if r := h.look(); len(r.Records) != 2 {
		t.Errorf("P22.2: the twin has zeros for records 3 and 4: %v", r.Records)
	}
	junk := make([]byte, 1024)
	copy(junk, h.logAt(3))
	junk[7] = 99
	h.marker(first+2, junk)
	wantError(t, "a record of no kind in the twin", h.image, api.ErrLog)
}

// TestLog: the records, and where they end; what stands behind doesn't count.
func TestLog(t *testing.T) {
	h := story(t)
	want := records()
	for k := range want {
		want[k].LSN = k + 1
	}
	if r := h.look(); !reflect.DeepEqual(r.Records, want) {
		t.Errorf("P22.2: records %v, want %v", r.Records, want)
	}
	h.logAt(4)[511] = 0
	h.raw(9, []byte{99})
	if r := h.look(); !reflect.DeepEqual(r.Records, want[:3]) {
		t.Errorf("P22.2: records %v, want %v", r.Records, want[:3])
	}
	h.logAt(1)[0] = 0
	if r := h.look(); len(r.Records) != 0 {
		t.Errorf("P22.2: records %v, want none", r.Records)
	}
}

// TestGreatestShape: a full log, and all pages, in the places that the layout gives them.
func TestGreatestShape(t *testing.T) {
	h := blank(t, api.Shape{Pages: api.MaxPages, Log: api.MaxLog, Frames: api.MaxFrames})
	list := []api.Record{create(slot(63, 0), slot(0, 0), counter(7, 2, least, most, 5)), begin(1)}
	for len(list) < api.MaxLog {
		list = append(list, add(1, len(list), slot(63, 0), slot(0, 0), 7, 1))
	}
	h.log(list...)
	h.pages(ofCounters(63, 4096, counter(7, 2, least, most, 5+4094)), ofSums(0, 4095, sum(2, 5+4093)))
	r := h.look()
	if r.Shape != h.shape || len(r.Records) != 4096 || r.Records[4095].LSN != 4096 || len(r.Torn)+len(r.Ahead) != 0 {
		t.Errorf("P22.2: %v, %d records, torn %v, ahead %v", r.Shape, len(r.Records), r.Torn, r.Ahead)
	}
	if !slices.Equal(r.Counters, []api.Counter{counter(7, 2, least, most, 4099)}) || !slices.Equal(r.Groups, []api.Group{sum(2, 4098)}) {
		t.Errorf("P22.2: counters %v, groups %v", r.Counters, r.Groups)
	}
	h.wantClean(true, "a full disk")
	h.pages(ofCounters(63, 4095, counter(7, 2, least, most, 5+4094)))
	h.wantClean(false, "a full disk, a value too young")
	h.pages(ofCounters(63, 4097, counter(7, 2, least, most, 5+4094)))
	h.wantClean(false, "a full disk, a page ahead")
}

// TestTornAndAhead: each by number; a torn one is not ahead, and of those ahead the counters count.
func TestTornAndAhead(t *testing.T) {
	h := blank(t, api.Shape{Pages: 6, Log: 5, Frames: 2})
	h.log(begin(1), begin(2))
	h.pages(ofCounters(5, 3, counter(4, 1, 0, 9, 1)), ofSums(1, api.MaxLSN, sum(8, 1)), ofCounters(3, 9, counter(5, 1, 0, 9, 1)), ofSums(4, 9, sum(9, 1)), ofCounters(2, 2, counter(6, 1, 0, 9, 1)))
	h.image[(5+2*3)*512+100]++
	h.image[(5+2*4)*512+1023]++
	r := h.look()
	if !slices.Equal(r.Torn, []int{3, 4}) || !slices.Equal(r.Ahead, []int{1, 5}) {
		t.Errorf("P22.2: torn %v, ahead %v", r.Torn, r.Ahead)
	}
	if !slices.Equal(r.Counters, []api.Counter{counter(4, 1, 0, 9, 1), counter(6, 1, 0, 9, 1)}) || !slices.Equal(r.Groups, []api.Group{sum(8, 1)}) {
		t.Errorf("P22.2: counters %v, groups %v", r.Counters, r.Groups)
	}
	h.pages(ofSums(0, 1, sum(1, 1)))
	copy(h.sector(7), h.sector(5)) // page 0's bytes as page 1's
	copy(h.sector(8), h.sector(6))
	if r := h.look(); !slices.Equal(r.Torn, []int{1, 3, 4}) || !slices.Equal(r.Ahead, []int{5}) {
		t.Errorf("P22.2: torn %v, ahead %v", r.Torn, r.Ahead)
	}
}

// TestAheadOfAnEmptyLog: LSN 1 is.
func TestAheadOfAnEmptyLog(t *testing.T) {
	h := blank(t, small)
	h.pages(ofSums(1, 1, sum(1, 1)))
	if r := h.look(); !slices.Equal(r.Ahead, []int{1}) || len(r.Torn) != 0 {
		t.Errorf("P22.2: torn %v, ahead %v", r.Torn, r.Ahead)
	}
	h.wantClean(false, "a page ahead of an empty log")
}

// TestOneIDOften: by page, then by slot.
func TestOneIDOften(t *testing.T) {
	h := blank(t, api.Shape{Pages: 5, Log: 5, Frames: 2})
	h.log(begin(1))
	var want []api.Counter
	var sums []api.Group
	for id := 1; id <= 3; id++ {
		for n := int64(0); n < 14; n++ {
			want = append(want, counter(id, 1, 0, 99, n))
			sums = append(sums, sum(id, n))
		}
	}
	h.pages(
		ofCounters(0, 1, want[28], want[0], want[29], want[14], want[1], want[30], want[2], want[15], want[3], want[31], want[4], want[16], want[5], want[32], want[6]),
		ofSums(1, 1, sums[28], sums[0], sums[14], sums[15], sums[1], sums[29], sums[16], sums[2], sums[30], sums[17], sums[31], sums[3], sums[32], sums[18]),
		ofCounters(2, 1, want[33], want[17], want[34], want[7], want[8], want[35], want[36], want[37], want[18], want[19], want[9], want[10], want[11], want[12], want[13]),
		ofSums(3, 1, sums[33], sums[4], sums[5], sums[19], sums[6], sums[34], sums[20], sums[35], sums[7], sums[21], sums[22], sums[8], sums[9], sums[36], sums[10], sums[23], sums[11], sums[12], sums[37], sums[13], sums[24]),
		ofCounters(4, 1, want[38], want[20], want[39], want[21], want[40], want[22], want[41], want[23], want[24], want[25], want[26], want[27]),
	)
	r := h.look()
	if !slices.Equal(r.Counters, want) {
		t.Errorf("P22.2: counters %v, want %v", r.Counters, want)
	}
	sums = slices.DeleteFunc(sums, func(g api.Group) bool { return g.ID == 3 && g.Sum > 9 || g.ID == 2 && g.Sum > 10 })
	if !slices.Equal(r.Groups, sums) {
		t.Errorf("P22.2: groups %v, want %v", r.Groups, sums)
	}
}

// TestBehindTheLog: page by page, as the records make them, at every LSN; and what differs in one thing.
func TestBehindTheLog(t *testing.T) {
	seven := func(v int64) api.Counter { return counter(7, 2, 0, 10, v) }
	for _, right := range []page.Page{
		{Number: 0}, {Number: 1}, {Number: 2},
		ofCounters(0, 1, seven(5)), ofCounters(0, 3, seven(9)), ofCounters(0, 6, seven(5)),
		ofSums(1, 1, sum(2, 5)), ofSums(1, 3, sum(2, 9)), ofSums(1, 4, sum(2, 9), sum(1, 1)), ofSums(1, 5, sum(2, 9), sum(1, 0)), ofSums(1, 6, sum(2, 5), sum(1, 0)),
		ofCounters(2, 4, counter(3, 1, -9, 9, 1)), ofCounters(2, 5, counter(3, 1, -9, 9, 0)),
	} {
		h := story(t)
		h.pages(right)
		h.wantClean(true, "a right page")
		for _, wrong := range others(right) {
			h.pages(wrong)
			h.wantClean(false, "a page that differs in one thing")
		}
	}
}

// others: right pages that are not quite this one.
func others(p page.Page) []page.Page {
	var out []page.Page
	put := func(change func(q *page.Page)) {
		q := p.Copy()
		change(&q)
		out = append(out, q)
	}
	if p.LSN == 0 {
		return []page.Page{ofSums(p.Number, 7, sum(1, 0)), ofCounters(p.Number, 7, counter(1, 1, 0, 0, 0))}
	}
	for _, lsn := range []int{2, 7, 8} {
		put(func(q *page.Page) { q.LSN = lsn })
	}
	if len(p.Counters) > 0 {
		put(func(q *page.Page) { q.Counters[0].ID++ })
		put(func(q *page.Page) { q.Counters[0].Group++ })
		put(func(q *page.Page) { q.Counters[0].Bounds.Lo++ })
		put(func(q *page.Page) { q.Counters[0].Bounds.Hi-- })
		put(func(q *page.Page) { q.Counters[0].Value++ })
		put(func(q *page.Page) { q.Counters = append(q.Counters, q.Counters[0]) })
		put(func(q *page.Page) { q.Counters, q.Groups = nil, []api.Group{sum(2, 5)} })
		return out
	}
	last := len(p.Groups) - 1
	put(func(q *page.Page) { q.Groups[last].ID++ })
	put(func(q *page.Page) { q.Groups[last].Sum-- })
	put(func(q *page.Page) { q.Groups = append(q.Groups, sum(9, 0)) })
	put(func(q *page.Page) { q.Counters, q.Groups = []api.Counter{counter(2, 5, 0, 0, 0)}, nil })
	if last > 0 {
		put(func(q *page.Page) { q.Groups = q.Groups[:last] })
		put(func(q *page.Page) { q.Groups[0], q.Groups[last] = q.Groups[last], q.Groups[0] })
	}
	return out
}

// TestRecordsThatCannotBeDone: those up to the page's LSN count, and on their page alone.
func TestRecordsThatCannotBeDone(t *testing.T) {
	zero, two := slot(0, 0), slot(1, 0)
	made := create(zero, two, counter(7, 2, 0, most, 5))
	five, sumOfFive := ofCounters(0, 1, counter(7, 2, 0, most, 5)), ofSums(1, 1, sum(2, 5))
	for _, c := range []struct {
		why   string
		third api.Record
		page  page.Page
		clean bool
	}{
		{"a slot that isn't there, later", add(1, 2, slot(0, 1), two, 7, 1), five, true},
		{"a slot that isn't there, on the other page", add(1, 2, slot(0, 1), two, 7, 1), ofSums(1, 3, sum(2, 6)), true},
		{"a slot that isn't there", add(1, 2, slot(0, 1), two, 7, 1), ofCounters(0, 3, counter(7, 2, 0, most, 5)), false},
		{"another counter", add(1, 2, zero, two, 8, 1), ofCounters(0, 3, counter(7, 2, 0, most, 6)), false},
		{"a value beyond 64 bits, later", add(1, 2, zero, two, 7, most), sumOfFive, true},
		{"a value beyond 64 bits", add(1, 2, zero, two, 7, most), ofSums(1, 3, sum(2, least+4)), false},
		{"a page beyond the disk's", add(1, 2, slot(63, 3), two, 7, 1), ofSums(1, 3, sum(2, 6)), true},
		{"pages that are both beyond the disk's", add(1, 2, slot(3, 3), slot(2, 0), 7, 1), five, true},
		{"the same counter on a page of sums", create(slot(1, 0), slot(0, 0), counter(8, 7, 0, 9, 1)), ofSums(1, 3, sum(2, 5)), false},
		{"a second one, the page says none", create(slot(0, 1), two, counter(8, 2, 0, 9, 1)), page.Page{}, true},
		{"a second one", create(slot(0, 1), two, counter(8, 2, 0, 9, 1)), ofCounters(0, 3, counter(7, 2, 0, most, 5), counter(8, 2, 0, 9, 1)), true},
	} {
		h := blank(t, small)
		h.log(made, begin(1), c.third)
		h.pages(c.page)
		h.wantClean(c.clean, c.why)
	}
}

// TestCleanAsksAllPages: one fault on the last page, all else right.
func TestCleanAsksAllPages(t *testing.T) {
	right := []page.Page{ofCounters(0, 6, counter(7, 2, 0, 10, 5)), ofSums(1, 6, sum(2, 5), sum(1, 0)), ofCounters(2, 5, counter(3, 1, -9, 9, 0))}
	for k := range right {
		h := story(t)
		h.pages(right...)
		h.wantClean(true, "all pages as they must be")
		for _, wrong := range others(right[k]) {
			h.pages(wrong)
			h.wantClean(false, "one page as it can't be")
		}
		h.pages(right[k])
		h.image[(6+2*k)*512+511] = 1
		h.wantClean(false, "one page torn")
	}
}

// TestTheImageStays: bytes that a look would change on its own copy.
func TestTheImageStays(t *testing.T) {
	h := story(t)
	h.marker(5, h.bytes(ofCounters(0, 1, counter(7, 2, 0, 10, 5))))
	h.logAt(6)[0] = 0
	before := bytes.Clone(h.image)
	first := h.look()
	h.wantClean(true, "a twin to finish, a log to wipe")
	if !bytes.Equal(h.image, before) {
		t.Errorf("P22.1: the image is another one")
	}
	if second := h.look(); !reflect.DeepEqual(first, second) || !first.Finish {
		t.Errorf("P22.1: a second look tells %v, the first one %v", second, first)
	}
}
