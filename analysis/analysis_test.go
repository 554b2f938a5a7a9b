package analysis_test

import (
	"math"
	"slices"
	"testing"

	"quota/analysis"
	"quota/api"
)

// wrongNumbers are no record's number, of any log that there is.
var wrongNumbers = []int{math.MinInt, -1 << 32, -7, -1, 1 << 31, 1<<32 + 4, 1 << 62, math.MaxInt}

// dirty: a list, of page, since, page, since, ..
func dirty(numbers ...int) []api.Dirty {
	var out []api.Dirty
	for k := 0; k < len(numbers); k += 2 {
		out = append(out, api.Dirty{Page: numbers[k], Since: numbers[k+1]})
	}
	return out
}

func open(tx, last int) api.Live      { return api.Live{Tx: tx, Last: last} }
func committed(tx, last int) api.Live { return api.Live{Tx: tx, Last: last, Committed: true} }
func undoing(tx, last int) api.Live   { return api.Live{Tx: tx, Last: last, Undoing: true} }

func began(tx int) api.Record { return api.Record{Kind: api.Begin, Tx: tx} }

// over: a Commit, an Abort or an End.
func over(kind api.Kind, tx, prev int) api.Record {
	return api.Record{Kind: kind, Tx: tx, Prev: prev}
}

// change: an Add or an Undo of a counter on page a, whose sum stands on page b.
func change(kind api.Kind, tx, prev, a, b int) api.Record {
	return api.Record{Kind: kind, Tx: tx, Prev: prev, Where: api.Slot{Page: a}, Sums: api.Slot{Page: b}, Counter: api.Counter{ID: 7}, Delta: 1}
}

func create(a, b int) api.Record {
	return api.Record{Kind: api.Create, Where: api.Slot{Page: a}, Sums: api.Slot{Page: b}, Counter: api.Counter{ID: 7, Group: 2}}
}

func checkpoint(next int, pages []api.Dirty, live ...api.Live) api.Record {
	return api.Record{Kind: api.Checkpoint, Points: api.Points{Live: live, Dirty: pages, Next: next}}
}

// logOf: the records with their numbers, from 1 on.
func logOf(records ...api.Record) []api.Record {
	out := slices.Clone(records)
	for k := range out {
		out[k].LSN = k + 1
	}
	return out
}

// examples: B1 C A K M B2.
func examples() []api.Record {
	return logOf(began(1), create(0, 3), change(api.Add, 1, 1, 0, 3), checkpoint(2, dirty(0, 2), open(1, 3)), over(api.Commit, 1, 3), began(2))
}

func same(a, b analysis.Found) bool {
	return slices.Equal(a.Live, b.Live) && slices.Equal(a.Dirty, b.Dirty) && a.From == b.From && a.Next == b.Next
}

// want: Run finds these, and no error.
func want(t *testing.T, what string, records []api.Record, point, from, next int, pages []api.Dirty, live ...api.Live) {
	t.Helper()
	f := analysis.Found{Live: live, Dirty: pages, From: from, Next: next}
	if got, e := analysis.Run(records, point); !same(got, f) || e != api.OK {
		t.Errorf("P17.2: %s, from %d on: %v, %d, want %v", what, point, got, e, f)
	}
}

func refused(t *testing.T, what string, records []api.Record, point int, fault api.Errno) {
	t.Helper()
	if got, e := analysis.Run(records, point); !same(got, analysis.Found{}) || e != fault {
		t.Errorf("P17.2: %s, from %d on: %v, %d, want nothing and %d", what, point, got, e, fault)
	}
}

func TestExamples(t *testing.T) {
	all := examples()
	want(t, "nothing", nil, 0, 0, 1, nil)
	want(t, "B1 C A", all[:3], 0, 2, 2, dirty(0, 2, 3, 2), open(1, 3))
	want(t, "B1 C A K M B2", all, 0, 2, 3, dirty(0, 2, 3, 2), committed(1, 5), open(2, 6))
	want(t, "B1 C A K M B2", all, 4, 2, 3, dirty(0, 2), committed(1, 5), open(2, 6))
	for _, point := range []int{3, 7, -1} {
		refused(t, "B1 C A K M B2", all, point, api.ErrPlace)
	}
	refused(t, "C B1 ..", []api.Record{all[1], all[0], all[2]}, 0, api.ErrLog)
	refused(t, "an End of one that isn't over", logOf(began(1), over(api.End, 1, 1)), 0, api.ErrLog)
	refused(t, "a record of no kind", logOf(began(1), api.Record{}), 9, api.ErrKind)
}

// TestPoint: every number that is no checkpoint's.
func TestPoint(t *testing.T) {
	all := examples()
	for _, point := range append([]int{1, 2, 3, 5, 6, 7, 8}, wrongNumbers...) {
		refused(t, "the examples", all, point, api.ErrPlace)
		refused(t, "nothing", nil, point, api.ErrPlace)
	}
	refused(t, "nothing", []api.Record{}, 1, api.ErrPlace)
	refused(t, "ahead of the checkpoint's end", all[:3], 4, api.ErrPlace)
	want(t, "a checkpoint alone", logOf(checkpoint(1, nil)), 1, 0, 1, nil)
	want(t, "a checkpoint alone", logOf(checkpoint(1, nil)), 0, 0, 1, nil)
	want(t, "a checkpoint at the end", all[:4], 4, 2, 2, dirty(0, 2), open(1, 3))
	want(t, "a checkpoint at the end", all[:4], 0, 2, 2, dirty(0, 2, 3, 2), open(1, 3))
}

// TestNumbersOfRecords: each is its place in the list, wherever the restart begins.
func TestNumbersOfRecords(t *testing.T) {
	for at := range examples() {
		for _, lsn := range append([]int{0, at, at + 2, 7}, wrongNumbers...) {
			all := examples()
			all[at].LSN = lsn
			for _, point := range []int{0, 4, 3, -1} {
				refused(t, "a wrong number", all, point, api.ErrLog)
			}
		}
	}
	refused(t, "from the second on", examples()[1:], 0, api.ErrLog)
	refused(t, "from the second on", examples()[1:], 3, api.ErrLog)
	refused(t, "the same again", append(examples()[:1], examples()[0]), 0, api.ErrLog)
}

// TestRecordsThatMayBeNone: wherever they stand, and wherever the restart begins.
func TestRecordsThatMayBeNone(t *testing.T) {
	for at := range examples() {
		for _, c := range []struct {
			what  string
			bad   api.Record
			fault api.Errno
		}{
			{"no kind", api.Record{}, api.ErrKind},
			{"a kind below", api.Record{Kind: -1, Tx: -1}, api.ErrKind},
			{"a kind beyond", api.Record{Kind: 9}, api.ErrKind},
			{"a field too many", api.Record{Kind: api.Begin, Tx: 1, Delta: 1}, api.ErrField},
			{"a page beyond", create(64, 3), api.ErrField},
			{"a page below", create(0, -1), api.ErrField},
			{"one page for both", create(3, 3), api.ErrField},
			{"no transaction", began(0), api.ErrField},
			{"its own number ahead of it", over(api.Commit, 1, at+1), api.ErrField},
			{"a checkpoint of a record behind it", checkpoint(2, nil, open(1, at+1)), api.ErrField},
			{"a checkpoint of a page beyond", checkpoint(2, dirty(64, 1)), api.ErrField},
			{"a checkpoint without a next", checkpoint(0, nil), api.ErrField},
		} {
			all := examples()
			all[at] = c.bad
			all[at].LSN = at + 1
			for _, point := range []int{0, 4, 3, -1} {
				refused(t, c.what, all, point, c.fault)
			}
		}
	}
}

// TestOrderOfFaults: record by record first, then the point, then the table.
func TestOrderOfFaults(t *testing.T) {
	none, many := api.Record{}, api.Record{Kind: api.Begin, Tx: 1, Delta: 1}
	refused(t, "ErrKind ahead of ErrField", logOf(none, many), 0, api.ErrKind)
	refused(t, "ErrField ahead of ErrKind", logOf(many, none), 0, api.ErrField)
	late := logOf(many, began(1))
	late[1].LSN = 3
	refused(t, "ErrField ahead of ErrLog", late, 0, api.ErrField)
	late[0].LSN = 2
	refused(t, "ErrLog ahead of ErrField, in one record", late, 0, api.ErrLog)
	late = logOf(began(1), none)
	late[0].LSN = 2
	refused(t, "ErrLog ahead of ErrKind", late, 0, api.ErrLog)
	broken := over(api.End, 9, 1)
	refused(t, "ErrField ahead of the point", logOf(began(1), broken, many), 2, api.ErrField)
	refused(t, "ErrKind ahead of the table", logOf(began(1), broken, none), 0, api.ErrKind)
	refused(t, "the point ahead of the table", logOf(began(1), broken), 2, api.ErrPlace)
	refused(t, "the table", logOf(began(1), broken), 0, api.ErrLog)
}

// TestWhatTheTableRefuses: every error of its own is ErrLog here.
func TestWhatTheTableRefuses(t *testing.T) {
	for _, c := range []struct {
		what string
		last []api.Record
	}{
		{"a Begin of another number", []api.Record{began(3)}},
		{"a Begin of one that lives", []api.Record{began(1)}},
		{"an Add of nobody", []api.Record{change(api.Add, 2, 1, 0, 3)}},
		{"a Commit of nobody", []api.Record{over(api.Commit, 9, 1)}},
		{"a chain that is broken", []api.Record{change(api.Add, 1, 2, 0, 3)}},
		{"an Undo of one that isn't taken back", []api.Record{change(api.Undo, 1, 3, 0, 3)}},
		{"an End of one that isn't over", []api.Record{over(api.End, 1, 3)}},
		{"an Add behind a Commit", []api.Record{over(api.Commit, 1, 3), change(api.Add, 1, 5, 0, 3)}},
		{"an Undo behind a Commit", []api.Record{over(api.Commit, 1, 3), change(api.Undo, 1, 5, 0, 3)}},
		{"an Add behind an Abort", []api.Record{over(api.Abort, 1, 3), change(api.Add, 1, 5, 0, 3)}},
		{"a Commit behind an Abort", []api.Record{over(api.Abort, 1, 3), over(api.Commit, 1, 5)}},
		{"an End of one that is over", []api.Record{over(api.Abort, 1, 3), over(api.End, 1, 5), over(api.End, 1, 6)}},
		{"a number that is given already", []api.Record{over(api.Commit, 1, 3), over(api.End, 1, 5), began(1)}},
	} {
		all := logOf(append(examples()[:4], c.last...)...)
		refused(t, c.what, all, 0, api.ErrLog)
		refused(t, c.what, all, 4, api.ErrLog)
		refused(t, c.what, logOf(append(all, began(2), over(api.Commit, 2, len(all)+1))...), 4, api.ErrLog)
	}
}

// TestOneTooMany: the checkpoint's living ones and those that begin behind it are counted together.
func TestOneTooMany(t *testing.T) {
	for _, ahead := range []int{0, 1, 20, 32} {
		var all []api.Record
		var live []api.Live
		for k := 1; k <= ahead; k++ {
			all, live = append(all, began(k)), append(live, open(k, k))
		}
		all = append(all, checkpoint(ahead+1, nil, live...))
		for k := ahead + 1; k <= 32; k++ {
			all, live = append(all, began(k)), append(live, open(k, k+1))
		}
		want(t, "as many as may live", logOf(all...), ahead+1, 0, 33, nil, live...)
		want(t, "as many as may live", logOf(all...), 0, 0, 33, nil, live...)
		all = append(all, began(33))
		refused(t, "one too many", logOf(all...), ahead+1, api.ErrLog)
		refused(t, "one too many", logOf(all...), 0, api.ErrLog)
	}
}

func TestTheLastNumbers(t *testing.T) {
	last := 1<<31 - 1
	want(t, "all numbers are given", logOf(checkpoint(last+1, nil)), 1, 0, last+1, nil)
	want(t, "the last number is given", logOf(checkpoint(last, nil), began(last)), 1, 0, last+1, nil, open(last, 2))
	refused(t, "no number is left", logOf(checkpoint(last+1, nil), began(last)), 1, api.ErrLog)
	refused(t, "a number too great", logOf(checkpoint(last+1, nil), began(last+1)), 1, api.ErrField)
}

// TestWhatDirtiesAPage: three kinds, both of their pages, once.
func TestWhatDirtiesAPage(t *testing.T) {
	life := logOf(began(1), change(api.Add, 1, 1, 5, 9), over(api.Abort, 1, 2), change(api.Undo, 1, 3, 6, 8), over(api.End, 1, 4), create(63, 0))
	want(t, "a Begin", life[:1], 0, 0, 2, nil, open(1, 1))
	want(t, "an Add", life[:2], 0, 2, 2, dirty(5, 2, 9, 2), open(1, 2))
	want(t, "an Abort", life[:3], 0, 2, 2, dirty(5, 2, 9, 2), undoing(1, 3))
	want(t, "an Undo", life[:4], 0, 2, 2, dirty(5, 2, 6, 4, 8, 4, 9, 2), undoing(1, 4))
	want(t, "an End", life[:5], 0, 2, 2, dirty(5, 2, 6, 4, 8, 4, 9, 2))
	want(t, "a Create", life, 0, 2, 2, dirty(0, 6, 5, 2, 6, 4, 8, 4, 9, 2, 63, 6))
	want(t, "a page again", logOf(create(4, 2), create(2, 3), create(3, 4)), 0, 1, 1, dirty(2, 1, 3, 2, 4, 1))
	want(t, "a Commit and an End", logOf(began(1), over(api.Commit, 1, 1), over(api.End, 1, 2)), 0, 0, 2, nil)
}

// TestAllPagesDirty: more than a checkpoint may name.
func TestAllPagesDirty(t *testing.T) {
	var all []api.Record
	var pages, rest []api.Dirty
	for k := range 32 {
		all = append(all, create(63-k, k))
	}
	for n := range 64 {
		pages = append(pages, api.Dirty{Page: n, Since: 1 + min(n, 63-n)})
	}
	want(t, "all pages", logOf(all...), 0, 1, 1, pages)
	point := checkpoint(1, dirty(0, 3, 40, 2))
	all = slices.Concat(all, []api.Record{point}, all)
	for n := range 64 {
		rest = append(rest, api.Dirty{Page: n, Since: 34 + min(n, 63-n)})
	}
	rest[0].Since, rest[40].Since = 3, 2
	want(t, "all pages behind a checkpoint", logOf(all...), 33, 2, 1, rest)
	want(t, "all pages twice", logOf(all...), 0, 1, 1, pages)
}

// TestFrom: the least, on whichever page it stands.
func TestFrom(t *testing.T) {
	ahead := []api.Record{checkpoint(1, nil), checkpoint(1, nil), checkpoint(1, nil), checkpoint(1, nil)}
	for _, c := range []struct {
		pages []api.Dirty
		least int
	}{
		{nil, 0}, {dirty(0, 4), 4}, {dirty(63, 1), 1}, {dirty(0, 4, 1, 3, 2, 2), 2}, {dirty(0, 2, 1, 3, 63, 4), 2}, {dirty(7, 3, 8, 1, 9, 2), 1},
	} {
		all := logOf(append(slices.Clone(ahead), checkpoint(1, c.pages))...)
		want(t, "the checkpoint's", all, 5, c.least, 1, c.pages)
		want(t, "none", all, 0, 0, 1, nil)
		want(t, "none", all, 1, 0, 1, nil)
	}
}

// TestACheckpointSpeaksForItself: what is ahead of it is not read, however it is; one behind it is not looked into.
func TestACheckpointSpeaksForItself(t *testing.T) {
	all := logOf(create(1, 2), over(api.End, 9, 1), checkpoint(8, dirty(5, 2, 6, 1), undoing(3, 2), committed(7, 1)), change(api.Undo, 3, 2, 6, 7))
	refused(t, "what the table refuses ahead of it", all, 0, api.ErrLog)
	want(t, "what the table refuses ahead of it", all, 3, 1, 8, dirty(5, 2, 6, 1, 7, 4), undoing(3, 4), committed(7, 1))
	all = logOf(append(all, checkpoint(20, dirty(9, 1), open(4, 2)), over(api.End, 7, 1), began(8))...)
	want(t, "a checkpoint behind it", all, 3, 1, 9, dirty(5, 2, 6, 1, 7, 4), undoing(3, 4), open(8, 7))
	refused(t, "that checkpoint", all, 5, api.ErrLog)
	want(t, "that checkpoint", all[:5], 5, 1, 20, dirty(9, 1), open(4, 2))
}

func TestALongLog(t *testing.T) {
	all := []api.Record{began(1)}
	for k := 2; k <= 100_000; k++ {
		all = append(all, change(api.Add, 1, k-1, k%3, 10+k%2))
	}
	all = logOf(all...)
	want(t, "a long log", all, 0, 2, 2, dirty(0, 3, 1, 4, 2, 2, 10, 2, 11, 3), open(1, 100_000))
	all[99_999].Prev--
	refused(t, "a long log", all, 0, api.ErrLog)
	all[99_999].Prev = 100_000
	refused(t, "a long log", all, 0, api.ErrField)
}
