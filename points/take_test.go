package points_test

import (
	"math/rand/v2"
	"slices"
	"testing"

	"quota/api"
	"quota/log"
	"quota/page"
	"quota/points"
	"quota/pool"
	"quota/record"
	"quota/sectors"
	"quota/txns"
)

// store: a disk with a log of some records, a pool over both, a table beside.
type store struct {
	t     *testing.T
	disk  *sectors.Device
	log   *log.Log
	pool  *pool.Pool
	table *txns.Table
	shape api.Shape
}

// made: of a disk of zeros, with a log that is filled, and nothing of it forced.
func made(t *testing.T, s api.Shape, next int) *store {
	t.Helper()
	d, e := sectors.New(5 + 2*s.Pages + s.Log)
	if e != api.OK {
		t.Fatalf("no disk: %d", e)
	}
	l, err := log.Open(d, 5+2*s.Pages, s.Log)
	if err != nil {
		t.Fatal(err)
	}
	for l.Free() > 0 {
		if _, e := l.Append(api.Record{Kind: api.Begin, Tx: l.Last() + 1}); e != api.OK {
			t.Fatalf("no record: %d", e)
		}
	}
	p, e := pool.New(d, l, s)
	if p == nil || e != api.OK {
		t.Fatalf("no pool: %d", e)
	}
	x, e := txns.New(next)
	if x == nil || e != api.OK {
		t.Fatalf("no table: %d", e)
	}
	return &store{t, d, l, p, x, s}
}

// put: the page's new state is that of record lsn.
func (s *store) put(n, lsn int) {
	s.t.Helper()
	if _, err := s.pool.Get(n); err != nil {
		s.t.Fatal(err)
	}
	if err := s.pool.Put(page.Page{Number: n, LSN: lsn, Groups: []api.Group{{ID: 1, Sum: int64(lsn)}}}); err != nil {
		s.t.Fatal(err)
	}
}

func (s *store) begin(lsn int) {
	s.t.Helper()
	if _, e := s.table.Begin(lsn); e != api.OK {
		s.t.Fatalf("no transaction: %d", e)
	}
}

func (s *store) note(kind api.Kind, tx, prev, lsn int) {
	s.t.Helper()
	if e := s.table.Note(api.Record{Kind: kind, Tx: tx, Prev: prev, LSN: lsn}); e != api.OK {
		s.t.Fatalf("no record %d of %d: %d", kind, tx, e)
	}
}

func samePoints(a, b api.Points) bool {
	return slices.Equal(a.Live, b.Live) && slices.Equal(a.Dirty, b.Dirty) && a.Next == b.Next
}

// tells: all that the table, the pool, the log and the disk say by themselves.
type tells struct {
	points                      api.Points
	held                        []int
	calls, last, forced, cached int
}

func (s *store) tell() tells {
	own := api.Points{Live: s.table.Live(), Dirty: s.pool.Dirty(), Next: s.table.Next()}
	return tells{own, s.pool.Held(), s.disk.Calls(), s.log.Last(), s.log.Forced(), len(s.disk.Cache())}
}

func (a tells) same(b tells) bool {
	return samePoints(a.points, b.points) && slices.Equal(a.held, b.held) &&
		a.calls == b.calls && a.last == b.last && a.forced == b.forced && a.cached == b.cached
}

// take: what Take answers, which Check must take; nothing may be otherwise behind it.
func (s *store) take() api.Points {
	s.t.Helper()
	before := s.tell()
	x, e := points.Take(s.table, s.pool)
	if e != api.OK {
		s.t.Fatalf("P16.2: Take = %d", e)
	}
	if !samePoints(x, before.points) {
		s.t.Errorf("P16.2: Take = %v, want %v", x, before.points)
	}
	if !s.tell().same(before) {
		s.t.Errorf("P16.2: Take has made %v of %v", s.tell(), before)
	}
	if e := points.Check(x); e != api.OK {
		s.t.Errorf("P16.6: Take = %v, of which Check says %d", x, e)
	}
	return x
}

func (s *store) wantTake(next int, live []api.Live, pages []api.Dirty) {
	s.t.Helper()
	if x, want := s.take(), (api.Points{Live: live, Dirty: pages, Next: next}); !samePoints(x, want) {
		s.t.Errorf("P16.2: Take = %v, want %v", x, want)
	}
}

var small = api.Shape{Pages: 4, Log: 9, Frames: 3}

func TestTakeNeedsBoth(t *testing.T) {
	s := made(t, small, 5)
	s.begin(1)
	s.put(0, 1)
	refused := func(x *txns.Table, p *pool.Pool) {
		t.Helper()
		before := s.tell()
		got, e := points.Take(x, p)
		if !samePoints(got, api.Points{}) || e != api.ErrHandle {
			t.Errorf("P16.2: Take = %v, %d, want ErrHandle and nothing", got, e)
		}
		if !s.tell().same(before) {
			t.Error("P16.2: a Take that is refused changes something")
		}
	}
	refused(nil, s.pool)
	refused(s.table, nil)
	refused(nil, nil)
}

// TestTakeOfWhatThereIs: transactions in every state, pages that are dirty, clean, written and gone.
func TestTakeOfWhatThereIs(t *testing.T) {
	s := made(t, small, 5)
	s.wantTake(5, nil, nil)
	for lsn := 1; lsn <= 3; lsn++ {
		s.begin(lsn)
	}
	s.note(api.Commit, 6, 2, 4)
	s.note(api.Abort, 7, 3, 5)
	live := []api.Live{open(5, 1), committed(6, 4), undoing(7, 5)}
	s.wantTake(8, live, nil)
	s.put(3, 2)
	s.put(0, 4)
	s.put(3, 6)
	s.wantTake(8, live, dirty(0, 4, 3, 2))
	if err := s.pool.Flush(3); err != nil {
		t.Fatal(err)
	}
	s.wantTake(8, live, dirty(0, 4))
	s.put(3, 7)
	s.wantTake(8, live, dirty(0, 4, 3, 7))
	if err := s.pool.Evict(0); err != nil {
		t.Fatal(err)
	}
	s.note(api.End, 6, 4, 8)
	s.wantTake(8, []api.Live{open(5, 1), undoing(7, 5)}, dirty(3, 7))
	s.note(api.Commit, 5, 1, 9)
	s.wantTake(8, []api.Live{committed(5, 9), undoing(7, 5)}, dirty(3, 7))
}

// TestTakeUsesNoPage: which one leaves next hangs on the calls of the pool alone.
func TestTakeUsesNoPage(t *testing.T) {
	s := made(t, small, 1)
	for _, n := range []int{2, 0, 1} {
		s.put(n, n+1)
		s.take()
	}
	if _, err := s.pool.Get(3); err != nil {
		t.Fatal(err)
	}
	if held := s.pool.Held(); !slices.Equal(held, []int{0, 1, 3}) {
		t.Errorf("P16.2: behind Take %v are held, want 0 1 3", held)
	}
	s.wantTake(1, nil, dirty(0, 1, 1, 2))
}

// TestTakeOfAnEndedPool: it has no dirty pages; Take asks nothing of the disk.
func TestTakeOfAnEndedPool(t *testing.T) {
	s := made(t, small, 5)
	s.begin(1)
	s.put(0, 1)
	if e := s.disk.Crash(api.Loss{Torn: -1}); e != api.OK {
		t.Fatal(e)
	}
	s.wantTake(6, []api.Live{open(5, 1)}, dirty(0, 1))
	if err := s.pool.Flush(0); api.Code(err) != api.ErrDown {
		t.Fatalf("the pool is not ended: %v", err)
	}
	s.wantTake(6, []api.Live{open(5, 1)}, nil)
}

// TestTakeOfAsMuchAsMayBe: the record of it may be written, too.
func TestTakeOfAsMuchAsMayBe(t *testing.T) {
	const first = 1<<31 - 32
	s := made(t, api.Shape{Pages: 64, Log: 40, Frames: 16}, first)
	want := api.Points{Next: 1 << 31}
	for k := range 32 {
		s.begin(1<<31 - 1 - k)
		want.Live = append(want.Live, open(first+k, 1<<31-1-k))
	}
	for k := range 16 {
		s.put(63-k, 40-k)
		want.Dirty = append(want.Dirty, api.Dirty{Page: 48 + k, Since: 25 + k})
	}
	x := s.take()
	if !samePoints(x, want) {
		t.Errorf("P16.2: Take = %v, want %v", x, want)
	}
	b, e := record.Encode(api.Record{Kind: api.Checkpoint, Points: x})
	if e != api.OK {
		t.Fatalf("P16.6: there is no record of %v: %d", x, e)
	}
	if back, e := record.Decode(b); e != api.OK || !samePoints(back.Points, x) {
		t.Errorf("P16.6: %v comes back as %v, %d", x, back.Points, e)
	}
}

// step: any call of the table, or of the pool, taken or refused.
func (s *store) step(r *rand.Rand) {
	tx, n, lsn := s.table.Next()-1-r.IntN(6), r.IntN(s.shape.Pages+1), 1+r.IntN(s.log.Last()+1)
	live, _ := s.table.Get(tx)
	switch r.IntN(8) {
	case 0:
		s.table.Begin(lsn)
	case 1, 2, 3:
		kind := api.Add + api.Kind(r.IntN(5))
		s.table.Note(api.Record{Kind: kind, Tx: tx, Prev: live.Last, LSN: live.Last + r.IntN(3)})
	case 4:
		s.pool.Get(n)
	case 5:
		s.pool.Put(page.Page{Number: n, LSN: lsn, Groups: []api.Group{{ID: 1}}})
	case 6:
		s.pool.Flush(n)
	case 7:
		s.pool.Evict(n)
	}
}

// TestTakeBehindAnyCalls: whatever the table and the pool have been through.
func TestTakeBehindAnyCalls(t *testing.T) {
	r := rand.New(rand.NewPCG(16, 6))
	lives, dirties := 0, 0
	for range 60 {
		shape := api.Shape{Pages: 2 + r.IntN(20), Log: 60, Frames: 2 + r.IntN(15)}
		s := made(t, shape, []int{1, 77, 1<<31 - 20, 1 << 31}[r.IntN(4)])
		if r.IntN(3) == 0 {
			s.disk.Arm(1+r.IntN(80), api.Loss{Torn: -1})
		}
		for range 150 {
			s.step(r)
			x := s.take()
			lives, dirties = max(lives, len(x.Live)), max(dirties, len(x.Dirty))
			if t.Failed() {
				t.FailNow()
			}
		}
	}
	if lives < 5 || dirties < 5 {
		t.Errorf("the draw is poor: at most %d lived, and %d pages were dirty", lives, dirties)
	}
}
