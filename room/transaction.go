package room

import "quota/api"

// state: what of a transaction's last records is written.
type state int

const (
	live      state = iota // nothing
	committed              // its commit
	undoing                // its abort
)

// transaction: its state, and the counters whose undo is promised still.
type transaction struct {
	state state
	held  map[int]struct{}
}

func (x transaction) holds(counter int) bool {
	_, held := x.held[counter]
	return held
}

func (x transaction) promised() int {
	need := 1 + len(x.held) // its end is to come in every state
	if x.state == live {
		need++
	}
	return need
}

// commit: what it held is settled, so that no undo can come.
func (r *Room) commit(tx int, x transaction) api.Errno {
	if x.state != live {
		return api.ErrKind
	}
	r.transactions[tx] = transaction{state: committed}
	return api.OK
}

func (r *Room) abort(tx int, x transaction) api.Errno {
	if x.state != live {
		return api.ErrKind
	}
	r.transactions[tx] = transaction{state: undoing, held: x.held}
	return api.OK
}

func (x transaction) undo(counter int) api.Errno {
	if x.state != undoing {
		return api.ErrKind
	}
	if !x.holds(counter) {
		return api.ErrCounter
	}
	delete(x.held, counter)
	return api.OK
}

// end: one that is committed holds nothing.
func (r *Room) end(tx int, x transaction) api.Errno {
	if x.state == live || len(x.held) > 0 {
		return api.ErrKind
	}
	delete(r.transactions, tx)
	return api.OK
}
