package analysis_test

import (
	"math/rand/v2"
	"regexp"
	"slices"
	"testing"

	"quota/analysis"
	"quota/api"
	"quota/record"
)

// A transaction's life as letters: Begin, Add, Commit, aborted (X), Undo, End.
var (
	letters = map[api.Kind]string{api.Begin: "B", api.Add: "A", api.Undo: "U", api.Commit: "C", api.Abort: "X", api.End: "E"}
	alive   = regexp.MustCompile(`^BA*(C|XU*)?$`)
	whole   = regexp.MustCompile(`^BA*(C|XU*)E$`)
)

// lives: of each number that was given the letters and the last record.
type lives struct {
	text map[int]string
	last map[int]int
	next int
}

func livesOf(p api.Points) lives {
	out := lives{map[int]string{}, map[int]int{}, p.Next}
	for _, x := range p.Live {
		out.last[x.Tx], out.text[x.Tx] = x.Last, "B"
		if x.Committed {
			out.text[x.Tx] += "C"
		}
		if x.Undoing {
			out.text[x.Tx] += "X"
		}
	}
	return out
}

func (l *lives) told() []api.Live {
	var out []api.Live
	for tx := range l.text {
		if last := l.text[tx][len(l.text[tx])-1]; last != 'E' {
			x := api.Live{Tx: tx, Last: l.last[tx], Committed: last == 'C', Undoing: last == 'X' || last == 'U'}
			out = append(out, x)
		}
	}
	slices.SortFunc(out, func(a, b api.Live) int { return a.Tx - b.Tx })
	return out
}

// goesOn: whether the record may come, and is taken if so.
func (l *lives) goesOn(r api.Record) bool {
	letter := letters[r.Kind]
	if letter == "" {
		return true
	}
	if r.Kind == api.Begin {
		if r.Tx != l.next || len(l.told()) == 32 {
			return false
		}
		l.next++
	} else if r.Prev != l.last[r.Tx] {
		return false
	}
	text := l.text[r.Tx] + letter
	if !alive.MatchString(text) && !whole.MatchString(text) {
		return false
	}
	l.text[r.Tx], l.last[r.Tx] = text, r.LSN
	return true
}

func touches(r api.Record, page int) bool {
	return (r.Kind == api.Create || r.Kind == api.Add || r.Kind == api.Undo) && (r.Where.Page == page || r.Sums.Page == page)
}

// modelDirty: page by page, the checkpoint's word or else the first record behind it.
func modelDirty(p api.Points, behind []api.Record) []api.Dirty {
	var out []api.Dirty
	for n := range 64 {
		if k := slices.IndexFunc(p.Dirty, func(d api.Dirty) bool { return d.Page == n }); k >= 0 {
			out = append(out, p.Dirty[k])
		} else if k := slices.IndexFunc(behind, func(r api.Record) bool { return touches(r, n) }); k >= 0 {
			out = append(out, api.Dirty{Page: n, Since: behind[k].LSN})
		}
	}
	return out
}

func modelFault(records []api.Record, point int) api.Errno {
	for k, r := range records {
		if r.LSN != k+1 {
			return api.ErrLog
		}
		if e := record.Check(r); e != api.OK {
			return e
		}
	}
	if point != 0 && !slices.ContainsFunc(records, func(r api.Record) bool { return r.LSN == point && r.Kind == api.Checkpoint }) {
		return api.ErrPlace
	}
	return api.OK
}

func model(records []api.Record, point int) (analysis.Found, api.Errno) {
	if e := modelFault(records, point); e != api.OK {
		return analysis.Found{}, e
	}
	p := api.Points{Next: 1}
	if point > 0 {
		p = records[point-1].Points
	}
	l := livesOf(p)
	for _, r := range records[point:] {
		if !l.goesOn(r) {
			return analysis.Found{}, api.ErrLog
		}
	}
	f := analysis.Found{Live: l.told(), Dirty: modelDirty(p, records[point:]), Next: l.next}
	for _, d := range f.Dirty {
		if f.From == 0 || d.Since < f.From {
			f.From = d.Since
		}
	}
	return f, api.OK
}

// twoPages: of so many that there are.
func twoPages(rnd *rand.Rand, pages int) (int, int) {
	a := rnd.IntN(pages)
	return a, (a + 1 + rnd.IntN(pages-1)) % pages
}

// drawNext: a record that may come behind those lives, but a checkpoint.
func drawNext(rnd *rand.Rand, l *lives, pages, begins int) api.Record {
	a, b := twoPages(rnd, pages)
	live := l.told()
	switch k := rnd.IntN(10 + begins); {
	case k == 0:
		return create(a, b)
	case len(live) == 0 || k >= 10 && len(live) < 32:
		return began(l.next)
	}
	x := live[rnd.IntN(len(live))]
	switch {
	case x.Committed || x.Undoing && rnd.IntN(3) == 0:
		return over(api.End, x.Tx, x.Last)
	case x.Undoing:
		return change(api.Undo, x.Tx, x.Last, a, b)
	case rnd.IntN(3) > 0:
		return change(api.Add, x.Tx, x.Last, a, b)
	}
	return over([]api.Kind{api.Commit, api.Abort}[rnd.IntN(2)], x.Tx, x.Last)
}

// drawPoints: what a checkpoint there might hold: the living as they are, and any pages, whatever the records ahead did.
func drawPoints(rnd *rand.Rand, l *lives, lsn int) api.Record {
	var pages []api.Dirty
	for n := range 64 {
		if lsn > 1 && len(pages) < 16 && rnd.IntN(9) == 0 {
			pages = append(pages, api.Dirty{Page: n, Since: 1 + rnd.IntN(lsn-1)})
		}
	}
	return checkpoint(l.next, pages, l.told()...)
}

// drawLog: a right one, of so many records.
func drawLog(rnd *rand.Rand, many int) []api.Record {
	l := livesOf(api.Points{Next: 1})
	pages, begins := 2+rnd.IntN(63), 1+rnd.IntN(12)
	var out []api.Record
	for lsn := 1; lsn <= many; lsn++ {
		r := drawNext(rnd, &l, pages, begins)
		if rnd.IntN(8) == 0 {
			r = drawPoints(rnd, &l, lsn)
		}
		r.LSN = lsn
		if !l.goesOn(r) {
			panic("a right record is wrong")
		}
		out = append(out, r)
	}
	return out
}

// spoil: one number or another of a record, so that it is a wrong one, or may be.
func spoil(rnd *rand.Rand, r *api.Record) {
	odd := []int{-1, 0, 1, 2, 3, 64, 1 << 31, wrongNumbers[rnd.IntN(len(wrongNumbers))]}[rnd.IntN(8)]
	numbers := []*int{&r.LSN, &r.Tx, &r.Prev, &r.Where.Page, &r.Sums.Page, &r.Points.Next, &r.Tx, &r.Prev}
	switch k := rnd.IntN(12); {
	case k < 8:
		*numbers[k] = odd
	case k == 8:
		r.Kind = api.Kind(rnd.IntN(11) - 1)
	case k == 9 && len(r.Points.Live) > 0:
		x := &r.Points.Live[rnd.IntN(len(r.Points.Live))]
		x.Committed = !x.Committed
	case k == 10 && len(r.Points.Live) > 0:
		r.Points.Live = r.Points.Live[1:]
	default:
		r.Prev--
	}
}

// asModel: at every point, right and wrong; how often each error came.
func asModel(t *testing.T, all []api.Record, counts map[api.Errno]int) {
	t.Helper()
	for point := -1; point <= len(all)+1; point++ {
		got, e := analysis.Run(all, point)
		f, fault := model(all, point)
		if !same(got, f) || e != fault {
			t.Fatalf("P17.2: of %v from %d on: %v, %d, want %v, %d", all, point, got, e, f, fault)
		}
		counts[e]++
	}
}

func TestDrawnLogs(t *testing.T) {
	rnd := rand.New(rand.NewPCG(17, 2))
	counts := map[api.Errno]int{}
	for range 400 {
		asModel(t, drawLog(rnd, rnd.IntN(60)), counts)
	}
	if counts[api.OK] < 1000 || counts[api.ErrPlace] < 1000 || len(counts) != 2 {
		t.Errorf("the draw is poor: %v", counts)
	}
}

func TestDrawnLogsWithAFault(t *testing.T) {
	rnd := rand.New(rand.NewPCG(17, 3))
	counts := map[api.Errno]int{}
	for range 2000 {
		all := drawLog(rnd, 1+rnd.IntN(30))
		for range 1 + rnd.IntN(2) {
			spoil(rnd, &all[rnd.IntN(len(all))])
		}
		asModel(t, all, counts)
	}
	for _, e := range []api.Errno{api.OK, api.ErrLog, api.ErrKind, api.ErrField, api.ErrPlace} {
		if counts[e] < 300 {
			t.Errorf("%d is seldom answered: %v", e, counts)
		}
	}
}

// TestDrawnLogsOutOfOrder: right records, some of which are left out, told twice or swapped, and numbered anew.
func TestDrawnLogsOutOfOrder(t *testing.T) {
	rnd := rand.New(rand.NewPCG(17, 4))
	counts := map[api.Errno]int{}
	for range 1000 {
		all := drawLog(rnd, 2+rnd.IntN(30))
		a, b := rnd.IntN(len(all)), rnd.IntN(len(all))
		switch rnd.IntN(3) {
		case 0:
			all = slices.Delete(all, a, a+1)
		case 1:
			all = slices.Insert(all, a, all[b])
		case 2:
			all[a], all[b] = all[b], all[a]
		}
		asModel(t, logOf(all...), counts)
	}
	if counts[api.OK] < 300 || counts[api.ErrLog] < 300 || counts[api.ErrField] < 300 {
		t.Errorf("the draw is poor: %v", counts)
	}
}
