package audit

import "quota/api"

// account: of a counter that a record has made.
type account struct {
	counter api.Counter
	terms   []int64 // its first value, and what is added by those that are committed: kept one by one, since only all together must fit
}

// gather: the accounts by their counters' numbers.
func gather(records []api.Record) (map[int]*account, api.Errno) {
	stays := committed(records)
	made := make(map[int]*account)
	for _, r := range records {
		switch a := made[r.Counter.ID]; {
		case r.Kind == api.Create && a != nil:
			return nil, api.ErrTwice
		case r.Kind == api.Create:
			made[r.Counter.ID] = &account{counter: r.Counter, terms: []int64{r.Counter.Value}}
		case r.Kind != api.Add:
			continue
		case a == nil:
			return nil, api.ErrCounter
		default:
			if _, ok := stays[r.Tx]; ok {
				a.terms = append(a.terms, r.Delta)
			}
		}
	}
	return made, api.OK
}

// committed: the transactions that are; a Commit counts for what stands behind it too.
func committed(records []api.Record) map[int]struct{} {
	list := make(map[int]struct{})
	for _, r := range records {
		if r.Kind == api.Commit {
			list[r.Tx] = struct{}{}
		}
	}
	return list
}
