package txns

import "quota/api"

// mayBeNext: one above MaxTx too, when all numbers are given.
func mayBeNext(next int) bool { return next >= 1 && next <= api.MaxTx+1 }

func mayBeLSN(lsn int) bool { return lsn >= 1 && lsn <= api.MaxLSN }

func mayBeTable(p api.Points) bool {
	if !mayBeNext(p.Next) || len(p.Live) > api.MaxLive {
		return false
	}
	ahead := 0
	for _, x := range p.Live {
		if x.Tx <= ahead || x.Tx >= p.Next || !mayBeLSN(x.Last) || x.Committed && x.Undoing {
			return false
		}
		ahead = x.Tx
	}
	return true
}
