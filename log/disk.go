package log

import (
	"bytes"

	"quota/api"
)

// stop: what gives a call up, from wherever it is met.
type stop struct {
	at int
	e  api.Errno
}

func giveUp(at int, e api.Errno) { panic(stop{at: at, e: e}) }

// must: a disk that has given up ends the call.
func must(e api.Errno) {
	if e != api.OK {
		giveUp(0, e)
	}
}

// asFault lets go on what no call of this package has thrown: that would be a mistake, not an answer.
func asFault(call string, met any) error {
	s, ok := met.(stop)
	if !ok {
		panic(met)
	}
	return fault(call, s.at, s.e)
}

func fault(call string, at int, e api.Errno) error { return &api.Fault{Call: call, At: at, Err: e} }

// settle: a crash must not take from a sector what has been read there.
func (l *Log) settle() {
	if l.disk.Down() {
		giveUp(0, api.ErrDown)
	}
	if len(l.disk.Cache()) > 0 {
		must(l.disk.Sync())
	}
}

// find: the records that are there.
func (l *Log) find() {
records:
	for s := 1; s <= l.count; s++ {
		b := l.read(s)
		size := b.size()
		if size < 1 || size > most {
			break records
		}
		want, end := frame(s, size), bytesAt+size
		for i := range b {
			its := bytesAt <= i && i < end // what the record's own bytes are is not asked
			if !its && b[i] != want[i] {
				break records
			}
		}
		if _, e := apart(s, b[bytesAt:end]); e != api.OK {
			giveUp(s, api.ErrLog)
		}
		l.records = append(l.records, bytes.Clone(b[bytesAt:end]))
	}
}

// wipe: a record is written only where zeros are, so that a torn one is known by its last byte.
func (l *Log) wipe() {
	wiped := false
	for s := l.Last() + 1; s <= l.count; s++ {
		if l.read(s) != (sector{}) {
			l.put(s, sector{})
			wiped = true
		}
	}
	if wiped {
		must(l.disk.Sync())
	}
}

// write: the records from one to another are forced.
func (l *Log) write(from, to int) {
	for s := from; s <= to; s++ {
		l.put(s, filled(s, l.records[s-1]))
	}
	must(l.disk.Sync())
	l.forced = to
}

// read: the sector of record s.
func (l *Log) read(s int) sector {
	b, e := l.disk.Read(l.home(s))
	must(e)
	return sector(b)
}

func (l *Log) put(s int, b sector) { must(l.disk.Write(l.home(s), b[:])) }

func (l *Log) home(s int) int { return l.first + s - 1 }
