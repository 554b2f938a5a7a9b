package record

import (
	"math"

	"quota/api"
	"quota/field"
)

const mostNext = api.MaxTx + 1

// What the last number of a Live says.
const (
	running = iota
	committed
	undoing
)

// write: no number is below 0, since the record has been checked.
func write(out *field.Writer, r api.Record) {
	has := fieldsOf(r.Kind)
	put(out, int(r.Kind))
	if has.tx {
		put(out, r.Tx)
	}
	if has.prev {
		put(out, r.Prev)
	}
	if has.counter {
		put(out, r.Where.Page, r.Where.Index, r.Sums.Page, r.Sums.Index, r.Counter.ID)
	}
	if has.first {
		writeFirst(out, r.Counter)
	}
	if has.delta {
		out.S(r.Delta)
	}
	if has.points {
		writePoints(out, r.Points)
	}
}

func put(out *field.Writer, numbers ...int) {
	for _, n := range numbers {
		out.U(uint64(n))
	}
}

func writeFirst(out *field.Writer, c api.Counter) {
	put(out, c.Group)
	out.S(c.Bounds.Lo)
	out.S(c.Bounds.Hi)
	out.S(c.Value)
}

func writePoints(out *field.Writer, p api.Points) {
	put(out, p.Next, len(p.Live))
	for _, l := range p.Live {
		put(out, l.Tx, l.Last, stateOf(l))
	}
	put(out, len(p.Dirty))
	for _, d := range p.Dirty {
		put(out, d.Page, d.Since)
	}
}

func stateOf(l api.Live) int {
	switch {
	case l.Committed:
		return committed
	case l.Undoing:
		return undoing
	}
	return running
}

// readKind holds the number itself against the kinds, since not every number of a reader is an int.
func readKind(in *field.Reader) (api.Kind, api.Errno) {
	n := in.U(math.MaxUint64)
	if _, e := in.Fault(); e != api.OK {
		return 0, e
	}
	if !from(uint64(api.Begin), n, uint64(api.Checkpoint)) {
		return 0, api.ErrKind
	}
	return api.Kind(n), api.OK
}

// read: what stands behind the Kind. Whether a number had a fault is asked of the reader, once, behind all of them.
func read(in *field.Reader, kind api.Kind) api.Record {
	has := fieldsOf(kind)
	r := api.Record{Kind: kind}
	if has.tx {
		r.Tx = take(in)
	}
	if has.prev {
		r.Prev = take(in)
	}
	if has.counter {
		r.Where, r.Sums = readSlot(in), readSlot(in)
		r.Counter.ID = take(in)
	}
	if has.first {
		r.Counter.Group = take(in)
		r.Counter.Bounds = api.Range{Lo: in.S(), Hi: in.S()}
		r.Counter.Value = in.S()
	}
	if has.delta {
		r.Delta = in.S()
	}
	if has.points {
		r.Points = readPoints(in)
	}
	return r
}

func take(in *field.Reader) int { return int(in.U(math.MaxInt32)) }

func readSlot(in *field.Reader) api.Slot { return api.Slot{Page: take(in), Index: take(in)} }

func readPoints(in *field.Reader) api.Points {
	p := api.Points{Next: int(in.U(mostNext))}
	for range in.U(api.MaxLive) {
		p.Live = append(p.Live, readLive(in))
	}
	for range in.U(api.MaxFrames) {
		p.Dirty = append(p.Dirty, api.Dirty{Page: take(in), Since: take(in)})
	}
	return p
}

func readLive(in *field.Reader) api.Live {
	l := api.Live{Tx: take(in), Last: take(in)}
	state := in.U(undoing)
	l.Committed, l.Undoing = state == committed, state == undoing
	return l
}
