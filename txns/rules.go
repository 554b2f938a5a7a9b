package txns

import "quota/api"

// rule: of a kind of record, when one may not come, and what becomes of its transaction else.
type rule struct {
	refused func(t *Table, r api.Record) api.Errno
	then    func(t *Table, r api.Record)
}

// rules: by kind. Number 0 is no kind's, and has no functions.
func rules() [api.Checkpoint + 1]rule {
	return [api.Checkpoint + 1]rule{
		api.Begin:      {refused: unlessNext, then: begins},
		api.Create:     {refused: never, then: nothing},
		api.Add:        {refused: unlessChained(isOpen), then: goesOn},
		api.Undo:       {refused: unlessChained(isUndoing), then: goesOn},
		api.Commit:     {refused: unlessChained(isOpen), then: commits},
		api.Abort:      {refused: unlessChained(isOpen), then: turnsBack},
		api.End:        {refused: unlessChained(isDecided), then: ends},
		api.Checkpoint: {refused: never, then: nothing},
	}
}

func never(*Table, api.Record) api.Errno { return api.OK }

func unlessNext(t *Table, r api.Record) api.Errno {
	if r.Tx != t.next {
		return api.ErrTx
	}
	if t.isFull() {
		return api.ErrMany
	}
	return api.OK
}

// unlessChained: what all kinds of a chain are asked alike, ahead of what each asks of its transaction by itself.
func unlessChained(fits func(x api.Live) bool) func(t *Table, r api.Record) api.Errno {
	return func(t *Table, r api.Record) api.Errno {
		x, lives := t.live[r.Tx]
		if !lives {
			return api.ErrTx
		}
		if r.Prev != x.Last || r.LSN <= x.Last {
			return api.ErrPlace
		}
		if !fits(x) {
			return api.ErrKind
		}
		return api.OK
	}
}

func isOpen(x api.Live) bool    { return !isDecided(x) }
func isUndoing(x api.Live) bool { return x.Undoing }
func isDecided(x api.Live) bool { return x.Committed || x.Undoing }

func nothing(*Table, api.Record) {}

func begins(t *Table, r api.Record) { t.begin(r.LSN) }

func goesOn(t *Table, r api.Record) {
	x := t.live[r.Tx]
	x.Last = r.LSN
	t.live[r.Tx] = x
}

func commits(t *Table, r api.Record) {
	t.live[r.Tx] = api.Live{Tx: r.Tx, Last: r.LSN, Committed: true}
}

func turnsBack(t *Table, r api.Record) {
	t.live[r.Tx] = api.Live{Tx: r.Tx, Last: r.LSN, Undoing: true}
}

func ends(t *Table, r api.Record) { delete(t.live, r.Tx) }
