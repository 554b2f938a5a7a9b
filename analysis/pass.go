package analysis

import (
	"quota/api"
	"quota/record"
	"quota/txns"
)

// faultOf looks at all records, those ahead of the checkpoint too: a log is right as a whole, or not at all.
func faultOf(records []api.Record) api.Errno {
	for k, r := range records {
		if r.LSN != k+1 {
			return api.ErrLog
		}
		if e := record.Check(r); e != api.OK {
			return e
		}
	}
	return api.OK
}

// pass: what is known behind the records that are read so far.
type pass struct {
	table *txns.Table
	pages since
}

// begin: the pass, as it stands behind the record of that number.
func begin(records []api.Record, point int) (*pass, api.Errno) {
	if point == 0 {
		t, e := txns.New(1)
		return &pass{table: t}, e
	}
	if point < 1 || point > len(records) || records[point-1].Kind != api.Checkpoint {
		return nil, api.ErrPlace
	}
	return standing(records[point-1].Points)
}

// standing: the pass that a checkpoint tells of.
func standing(x api.Points) (*pass, api.Errno) {
	t, e := txns.Load(x)
	out := &pass{table: t}
	for _, d := range x.Dirty {
		out.pages.mark(d.Page, d.Since)
	}
	return out, e
}

// read goes on by one record.
func (p *pass) read(r api.Record) api.Errno {
	if p.table.Note(r) != api.OK {
		return api.ErrLog
	}
	switch r.Kind {
	case api.Create, api.Add, api.Undo:
		p.pages.mark(r.Where.Page, r.LSN)
		p.pages.mark(r.Sums.Page, r.LSN)
	}
	return api.OK
}

func (p *pass) found() Found {
	return Found{Live: p.table.Live(), Dirty: p.pages.told(), From: p.pages.least(), Next: p.table.Next()}
}
