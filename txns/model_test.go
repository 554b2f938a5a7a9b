package txns_test

import (
	"math/rand/v2"
	"regexp"
	"slices"
	"strings"
	"testing"

	"quota/api"
	"quota/txns"
)

func drawn() *rand.Rand { return rand.New(rand.NewPCG(13, 0)) }

// A life as a text, a letter a record: b(egin), a(dd), u(ndo), c(ommit), x (abort), e(nd). Lives are those that may still go on, or are whole.
var (
	letters = map[api.Kind]string{api.Begin: "b", api.Add: "a", api.Undo: "u", api.Commit: "c", api.Abort: "x", api.End: "e"}
	alive   = regexp.MustCompile(`^ba*(c|xu*)?$`)
	whole   = regexp.MustCompile(`^ba*(ce|xu*e)$`)
)

// model: of every transaction that has ever begun, all its records; nothing is ever taken out of it.
type model struct {
	lives map[int][]api.Record
	next  int
}

func newModel(next int) *model { return &model{lives: map[int][]api.Record{}, next: next} }

func spell(life []api.Record) string {
	text := ""
	for _, r := range life {
		text += letters[r.Kind]
	}
	return text
}

func (m *model) live() []api.Live {
	var out []api.Live
	for tx, life := range m.lives {
		text := spell(life)
		if alive.MatchString(text) {
			out = append(out, api.Live{
				Tx: tx, Last: life[len(life)-1].LSN,
				Committed: text[len(text)-1] == 'c',
				Undoing:   strings.Contains(text, "x"),
			})
		}
	}
	slices.SortFunc(out, func(a, b api.Live) int { return a.Tx - b.Tx })
	return out
}

// pick: the one of that number in a list.
func pick(live []api.Live, tx int) (api.Live, api.Errno) {
	for _, x := range live {
		if x.Tx == tx {
			return x, api.OK
		}
	}
	return api.Live{}, api.ErrTx
}

func (m *model) begin(lsn int) (int, api.Errno) {
	if lsn < 1 || lsn > 1<<31-1 {
		return 0, api.ErrPlace
	}
	if len(m.live()) == 32 || m.next == 1<<31 {
		return 0, api.ErrMany
	}
	m.lives[m.next] = []api.Record{rec(api.Begin, m.next, 0, lsn)}
	m.next++
	return m.next - 1, api.OK
}

func (m *model) note(r api.Record) api.Errno {
	switch {
	case r.LSN < 1 || r.LSN > 1<<31-1:
		return api.ErrPlace
	case r.Kind == api.Create || r.Kind == api.Checkpoint:
		return api.OK
	case letters[r.Kind] == "":
		return api.ErrKind
	case r.Kind == api.Begin && r.Tx != m.next:
		return api.ErrTx
	case r.Kind == api.Begin:
		_, fault := m.begin(r.LSN)
		return fault
	}
	x, fault := pick(m.live(), r.Tx)
	if fault != api.OK {
		return fault
	}
	if r.Prev != x.Last || r.LSN <= x.Last {
		return api.ErrPlace
	}
	life := append(slices.Clone(m.lives[r.Tx]), r)
	if text := spell(life); !alive.MatchString(text) && !whole.MatchString(text) {
		return api.ErrKind
	}
	m.lives[r.Tx] = life
	return api.OK
}

// drawRecord: mostly one that goes on where a transaction stands, with one number or another turned beside it.
func drawRecord(rnd *rand.Rand, m *model, lsn int) api.Record {
	r := rec(api.Kind(1+rnd.IntN(8)), 1+rnd.IntN(m.next+1), rnd.IntN(lsn), lsn)
	if live := m.live(); len(live) > 0 && rnd.IntN(10) > 0 {
		x := live[rnd.IntN(len(live))]
		r.Tx, r.Prev = x.Tx, x.Last
	}
	if r.Kind == api.Begin && rnd.IntN(4) > 0 {
		r.Tx = m.next
	}
	switch rnd.IntN(16) {
	case 0:
		r.Prev += rnd.IntN(3) - 1
	case 1:
		r.LSN = r.Prev + rnd.IntN(3) - 1
	case 2:
		r.Kind = api.Kind(rnd.IntN(12) - 1)
	case 3:
		odd := wrongNumbers[rnd.IntN(len(wrongNumbers))]
		r.LSN, r.Tx = []int{odd, r.LSN}[rnd.IntN(2)], []int{odd, r.Tx}[rnd.IntN(2)]
	}
	return r
}

// step: one call of both, which must answer alike; the table's answer is given back.
func step(t *testing.T, rnd *rand.Rand, x *txns.Table, m *model, lsn int) (api.Record, api.Errno) {
	t.Helper()
	if rnd.IntN(6) == 0 {
		at := lsn - rnd.IntN(2)*rnd.IntN(2)*lsn
		before := m.next
		got, fault := x.Begin(at)
		if want, second := m.begin(at); got != want || fault != second {
			t.Fatalf("P13.4: Begin(%d) = %d, %d, want %d, %d", at, got, fault, want, second)
		}
		return rec(api.Begin, before, 0, at), fault
	}
	r := drawRecord(rnd, m, lsn)
	fault := x.Note(r)
	if want := m.note(r); fault != want {
		t.Fatalf("P13.6: Note(%v of %d, Prev %d, LSN %d) = %d, want %d, of %v", r.Kind, r.Tx, r.Prev, r.LSN, fault, want, m.live())
	}
	return r, fault
}

func sameAsModel(t *testing.T, x *txns.Table, m *model) {
	t.Helper()
	live := m.live()
	if got, want := tell(x), (told{live, m.next}); !got.same(want) {
		t.Fatalf("P13.3: told %v, want %v", got, want)
	}
	for tx := m.next - 50; tx <= m.next+1; tx++ {
		got, fault := x.Get(tx)
		if want, second := pick(live, tx); got != want || fault != second {
			t.Fatalf("P13.5: Get(%d) = %v, %d, want %v, %d", tx, got, fault, want, second)
		}
	}
}

func TestAgainstWholeLives(t *testing.T) {
	rnd := drawn()
	counts := map[api.Errno]int{}
	for run := range 150 {
		next := 1
		if run%5 == 0 {
			next = 1<<31 - 8
		}
		x, m := fresh(t, next), newModel(next)
		for lsn := 1; lsn <= 150; lsn++ {
			_, fault := step(t, rnd, x, m, lsn)
			counts[fault]++
			sameAsModel(t, x, m)
		}
	}
	for _, fault := range []api.Errno{api.OK, api.ErrPlace, api.ErrKind, api.ErrTx, api.ErrMany} {
		if counts[fault] < 100 {
			t.Errorf("%d is seldom answered: %v", fault, counts)
		}
	}
}

// TestThereAndBack: a table that is loaded from what another one tells goes on as that one does.
func TestThereAndBack(t *testing.T) {
	rnd := drawn()
	for run := range 150 {
		next := 1 + run%2*(1<<31-20)
		x, m := fresh(t, next), newModel(next)
		turn := rnd.IntN(100)
		for lsn := 1; lsn <= turn; lsn++ {
			step(t, rnd, x, m, lsn)
		}
		y, fault := txns.Load(api.Points{Live: x.Live(), Next: x.Next()})
		if y == nil || fault != api.OK {
			t.Fatalf("P13.7: Load(%v) = %v, %d", tell(x), y, fault)
		}
		sameAsModel(t, y, m)
		for lsn := turn + 1; lsn <= turn+80; lsn++ {
			r, fault := step(t, rnd, x, m, lsn)
			if again := y.Note(r); again != fault {
				t.Fatalf("P13.7: Note(%v) = %d and %d", r, fault, again)
			}
			sameAsModel(t, y, m)
		}
	}
}

// TestEveryLife: all orders of up to six records behind a begin. Each is refused at the first record that is out of it, and what is refused leaves no trace.
func TestEveryLife(t *testing.T) {
	kinds := []api.Kind{api.Add, api.Undo, api.Commit, api.Abort, api.End}
	var walk func(text string, records []api.Record)
	walk = func(text string, records []api.Record) {
		if len(records) > 6 {
			return
		}
		for _, kind := range kinds {
			x := fresh(t, 5)
			for _, r := range records {
				wantNote(t, x, r, api.OK)
			}
			r := rec(kind, 5, 3*len(records), 3*len(records)+3)
			now := text + letters[kind]
			switch {
			case whole.MatchString(now):
				wantNote(t, x, r, api.OK)
				wantState(t, x, 6)
				wantOver(t, x, r)
			case alive.MatchString(now):
				wantNote(t, x, r, api.OK)
				walk(now, append(slices.Clone(records), r))
			default:
				wantNote(t, x, r, api.ErrKind)
			}
		}
	}
	walk("b", []api.Record{rec(api.Begin, 5, 0, 3)})
}

// wantOver: behind its end no record of the transaction may come, and its number is not given again.
func wantOver(t *testing.T, x *txns.Table, end api.Record) {
	t.Helper()
	for kind := range letters {
		wantNote(t, x, rec(kind, 5, end.LSN, end.LSN+1), api.ErrTx)
		wantNote(t, x, rec(kind, 5, end.Prev, end.LSN), api.ErrTx)
	}
	wantBegin(t, x, end.LSN+1, 6)
}

// TestNumbersAreGivenOnce: though there is room for many at a time, and many are over.
func TestNumbersAreGivenOnce(t *testing.T) {
	x := fresh(t, 1)
	lsn := 1
	for tx := 1; tx <= 500; tx++ {
		wantBegin(t, x, lsn, tx)
		if tx%3 != 0 || len(x.Live()) == 32 {
			wantNote(t, x, rec(api.Abort, tx, lsn, lsn+1), api.OK)
			wantNote(t, x, rec(api.End, tx, lsn+1, lsn+2), api.OK)
		}
		lsn += 3
	}
	if x.Next() != 501 {
		t.Errorf("P13.3: Next = %d", x.Next())
	}
}
