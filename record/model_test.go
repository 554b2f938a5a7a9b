package record_test

import (
	"math"
	"math/rand/v2"
	"slices"

	"quota/api"
)

// The chapter's words, said once more, number by number: the program is held against them.

// number: one of a record's fields that is an int, the kinds that have it, and its bounds by the table.
type number struct {
	name        string
	of          func(r *api.Record) *int
	kinds       []api.Kind
	least, most int
}

var (
	every      = []api.Kind{api.Begin, api.Create, api.Add, api.Undo, api.Commit, api.Abort, api.End, api.Checkpoint}
	ofTx       = []api.Kind{api.Begin, api.Add, api.Undo, api.Commit, api.Abort, api.End}
	ofPrev     = []api.Kind{api.Add, api.Undo, api.Commit, api.Abort, api.End}
	ofSlots    = []api.Kind{api.Create, api.Add, api.Undo}
	ofDelta    = []api.Kind{api.Add, api.Undo}
	ofFirst    = []api.Kind{api.Create}
	ofPoints   = []api.Kind{api.Checkpoint}
	mostOfThem = 1<<31 - 1
)

func numbers() []number {
	return []number{
		{"LSN", func(r *api.Record) *int { return &r.LSN }, every, 0, mostOfThem},
		{"Tx", func(r *api.Record) *int { return &r.Tx }, ofTx, 1, mostOfThem},
		{"Prev", func(r *api.Record) *int { return &r.Prev }, ofPrev, 1, mostOfThem},
		{"Where.Page", func(r *api.Record) *int { return &r.Where.Page }, ofSlots, 0, 63},
		{"Where.Index", func(r *api.Record) *int { return &r.Where.Index }, ofSlots, 0, 30},
		{"Sums.Page", func(r *api.Record) *int { return &r.Sums.Page }, ofSlots, 0, 63},
		{"Sums.Index", func(r *api.Record) *int { return &r.Sums.Index }, ofSlots, 0, 83},
		{"Counter.ID", func(r *api.Record) *int { return &r.Counter.ID }, ofSlots, 1, 1 << 20},
		{"Counter.Group", func(r *api.Record) *int { return &r.Counter.Group }, ofFirst, 1, 1 << 20},
		{"Points.Next", func(r *api.Record) *int { return &r.Points.Next }, ofPoints, 1, 1 << 31},
	}
}

// modelCheck: what Check must answer.
func modelCheck(r api.Record) api.Errno {
	if !slices.Contains(every, r.Kind) {
		return api.ErrKind
	}
	ok := true
	for _, n := range numbers() {
		v := *n.of(&r)
		if slices.Contains(n.kinds, r.Kind) {
			ok = ok && v >= n.least && v <= n.most
		} else {
			ok = ok && v == 0
		}
	}
	ok = ok && (r.LSN == 0 || r.Prev < r.LSN)
	if slices.Contains(ofSlots, r.Kind) {
		ok = ok && r.Where.Page != r.Sums.Page
	}
	if !slices.Contains(ofDelta, r.Kind) {
		ok = ok && r.Delta == 0
	}
	c := r.Counter
	if r.Kind == api.Create {
		ok = ok && c.Bounds.Lo <= c.Bounds.Hi && c.Bounds.Lo <= c.Value && c.Value <= c.Bounds.Hi
	} else {
		ok = ok && c.Bounds.Lo == 0 && c.Bounds.Hi == 0 && c.Value == 0
	}
	if !ok || !modelPoints(r) {
		return api.ErrField
	}
	return api.OK
}

func modelPoints(r api.Record) bool {
	p := r.Points
	if r.Kind != api.Checkpoint {
		return len(p.Live) == 0 && len(p.Dirty) == 0
	}
	ok := len(p.Live) <= 32 && len(p.Dirty) <= 16
	for i, l := range p.Live {
		ok = ok && l.Tx >= 1 && l.Tx < p.Next && (i == 0 || l.Tx > p.Live[i-1].Tx)
		ok = ok && l.Last >= 1 && l.Last <= mostOfThem && (r.LSN == 0 || l.Last < r.LSN)
		ok = ok && !(l.Committed && l.Undoing)
	}
	for i, d := range p.Dirty {
		ok = ok && d.Page >= 0 && d.Page <= 63 && (i == 0 || d.Page > p.Dirty[i-1].Page)
		ok = ok && d.Since >= 1 && d.Since <= mostOfThem && (r.LSN == 0 || d.Since < r.LSN)
	}
	return ok
}

// formOf: a number as chapter 2 writes it.
func formOf(n uint64) []byte {
	var out []byte
	for n > 127 {
		out = append(out, byte(n%128+128))
		n /= 128
	}
	return append(out, byte(n))
}

func signedForm(n int64) []byte {
	if n < 0 {
		return formOf(2*uint64(-(n+1)) + 1)
	}
	return formOf(2 * uint64(n))
}

// join: the forms of ints (U) and of int64s (S), in their order.
func join(list ...any) []byte {
	var out []byte
	for _, x := range list {
		switch n := x.(type) {
		case int:
			out = append(out, formOf(uint64(n))...)
		case int64:
			out = append(out, signedForm(n)...)
		}
	}
	return out
}

// modelBytes: what Encode must answer of a record that may be one, a line for each of the table's.
func modelBytes(r api.Record) []byte {
	c, p := r.Counter, r.Points
	switch r.Kind {
	case api.Begin:
		return join(1, r.Tx)
	case api.Create:
		return join(2, r.Where.Page, r.Where.Index, r.Sums.Page, r.Sums.Index, c.ID, c.Group, c.Bounds.Lo, c.Bounds.Hi, c.Value)
	case api.Add, api.Undo:
		return join(int(r.Kind), r.Tx, r.Prev, r.Where.Page, r.Where.Index, r.Sums.Page, r.Sums.Index, c.ID, r.Delta)
	case api.Commit, api.Abort, api.End:
		return join(int(r.Kind), r.Tx, r.Prev)
	}
	out := join(8, p.Next, len(p.Live))
	for _, l := range p.Live {
		state := 0
		if l.Committed {
			state = 1
		}
		if l.Undoing {
			state = 2
		}
		out = append(out, join(l.Tx, l.Last, state)...)
	}
	out = append(out, join(len(p.Dirty))...)
	for _, d := range p.Dirty {
		out = append(out, join(d.Page, d.Since)...)
	}
	return out
}

// bytesLeft: those that are not read yet, and the first error.
type bytesLeft struct {
	b []byte
	e api.Errno
}

func (l *bytesLeft) u(most uint64) uint64 {
	if l.e != api.OK {
		return 0
	}
	n, size, e := modelNumber(l.b)
	if e == api.OK && n > most {
		e = api.ErrField
	}
	if e != api.OK {
		l.e = e
		return 0
	}
	l.b = l.b[size:]
	return n
}

func (l *bytesLeft) int() int { return int(l.u(1<<31 - 1)) }

func (l *bytesLeft) signed() int64 {
	n := l.u(math.MaxUint64)
	if n%2 == 1 {
		return -int64(n/2) - 1
	}
	return int64(n / 2)
}

// modelNumber: chapter 2's fault of the number that b begins with, or the number and how many bytes it has.
func modelNumber(b []byte) (n uint64, size int, e api.Errno) {
	end := slices.IndexFunc(b, func(x byte) bool { return x < 0x80 })
	switch {
	case len(b) >= 10 && (end < 0 || end > 9):
		return 0, 0, api.ErrForm
	case end < 0:
		return 0, 0, api.ErrShort
	case end > 0 && b[end] == 0, end == 9 && b[end] > 1:
		return 0, 0, api.ErrForm
	}
	for i := end; i >= 0; i-- {
		n = n*128 + uint64(b[i]%128)
	}
	return n, end + 1, api.OK
}

// modelDecode: what Decode must answer.
func modelDecode(b []byte) (api.Record, api.Errno) {
	l := &bytesLeft{b: b}
	k := l.u(math.MaxUint64)
	if l.e == api.OK && (k < 1 || k > 8) {
		return api.Record{}, api.ErrKind
	}
	r := api.Record{Kind: api.Kind(k)}
	if slices.Contains(ofTx, r.Kind) {
		r.Tx = l.int()
	}
	if slices.Contains(ofPrev, r.Kind) {
		r.Prev = l.int()
	}
	if slices.Contains(ofSlots, r.Kind) {
		for _, p := range []*int{&r.Where.Page, &r.Where.Index, &r.Sums.Page, &r.Sums.Index, &r.Counter.ID} {
			*p = l.int()
		}
	}
	if slices.Contains(ofFirst, r.Kind) {
		r.Counter.Group = l.int()
		for _, p := range []*int64{&r.Counter.Bounds.Lo, &r.Counter.Bounds.Hi, &r.Counter.Value} {
			*p = l.signed()
		}
	}
	if slices.Contains(ofDelta, r.Kind) {
		r.Delta = l.signed()
	}
	if r.Kind == api.Checkpoint {
		r.Points = l.points()
	}
	if l.e == api.OK && len(l.b) > 0 {
		l.e = api.ErrTail
	}
	if l.e == api.OK {
		l.e = modelCheck(r)
	}
	if l.e != api.OK {
		return api.Record{}, l.e
	}
	return r, api.OK
}

func (l *bytesLeft) points() api.Points {
	p := api.Points{Next: int(l.u(1 << 31))}
	for range l.u(32) {
		x := api.Live{Tx: l.int()}
		x.Last = l.int()
		state := l.u(2)
		x.Committed, x.Undoing = state == 1, state == 2
		p.Live = append(p.Live, x)
	}
	for range l.u(16) {
		x := api.Dirty{Page: l.int()}
		x.Since = l.int()
		p.Dirty = append(p.Dirty, x)
	}
	return p
}

// drawn: numbers that look drawn but are the same in every run.
func drawn() *rand.Rand { return rand.New(rand.NewPCG(5, 0)) }

// between: often an edge, else any.
func between(d *rand.Rand, least, most int) int {
	switch d.IntN(5) {
	case 0:
		return least
	case 1:
		return most
	case 2:
		return min(most, least+d.IntN(300))
	}
	return least + d.IntN(most-least+1)
}

func anyDelta(d *rand.Rand) int64 {
	edges := []int64{0, 1, -1, 63, 64, -64, -65, math.MaxInt64, math.MinInt64}
	if k := d.IntN(2 * len(edges)); k < len(edges) {
		return edges[k]
	}
	return int64(d.Uint64()) >> d.IntN(64)
}

// drawnRecord: one that may be one, of that kind, with an LSN or without.
func drawnRecord(d *rand.Rand, kind api.Kind) api.Record {
	r := api.Record{Kind: kind}
	for _, n := range numbers() {
		if slices.Contains(n.kinds, kind) && n.name != "LSN" {
			*n.of(&r) = between(d, n.least, n.most)
		}
	}
	if slices.Contains(ofSlots, kind) && r.Where.Page == r.Sums.Page {
		r.Sums.Page = (r.Where.Page + 1 + d.IntN(63)) % 64
	}
	if slices.Contains(ofDelta, kind) {
		r.Delta = anyDelta(d)
	}
	if kind == api.Create {
		three := []int64{anyDelta(d), anyDelta(d), anyDelta(d)}
		slices.Sort(three)
		r.Counter.Bounds, r.Counter.Value = api.Range{Lo: three[0], Hi: three[2]}, three[1]
	}
	if kind == api.Checkpoint {
		drawPoints(d, &r.Points)
	}
	if d.IntN(2) == 0 {
		if least := greatest(r) + 1; least <= mostOfThem {
			r.LSN = between(d, least, mostOfThem)
		}
	}
	return r
}

// greatest: the greatest LSN that a record names.
func greatest(r api.Record) int {
	out := r.Prev
	for _, l := range r.Points.Live {
		out = max(out, l.Last)
	}
	for _, x := range r.Points.Dirty {
		out = max(out, x.Since)
	}
	return out
}

func drawPoints(d *rand.Rand, p *api.Points) {
	for tx := 0; len(p.Live) < 32 && d.IntN(8) > 0; {
		tx += 1 + d.IntN(1<<d.IntN(31))
		if tx >= p.Next {
			break
		}
		state := d.IntN(3)
		p.Live = append(p.Live, api.Live{Tx: tx, Last: between(d, 1, mostOfThem), Committed: state == 1, Undoing: state == 2})
	}
	for page := d.IntN(3); len(p.Dirty) < 16 && page < 64 && d.IntN(8) > 0; page += 1 + d.IntN(9) {
		p.Dirty = append(p.Dirty, api.Dirty{Page: page, Since: between(d, 1, mostOfThem)})
	}
}
