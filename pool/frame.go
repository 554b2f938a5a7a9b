package pool

import (
	"quota/api"
	"quota/master"
	"quota/page"
	"quota/twin"
)

// twinAt: the twin's first sector, behind the master's two.
const twinAt = 2

// frame: a held page.
type frame struct {
	state page.Page
	pins  int
	since int // 0: it is clean, for records begin with 1
	used  int // its last use's number, which no other frame has
}

func (f *frame) dirty() bool { return f.since > 0 }

// change: since tells the first change that the disk doesn't have, so later ones leave it.
func (f *frame) change(x page.Page) {
	f.state = x.Copy()
	if !f.dirty() {
		f.since = x.LSN
	}
}

// reach: may a call have page n?
func (p *Pool) reach(n int) api.Errno {
	if p.ended {
		return api.ErrDown
	}
	_, e := master.Home(p.shape, n)
	return e
}

// find: page n, if it is held.
func (p *Pool) find(n int) (*frame, api.Errno) {
	if e := p.reach(n); e != api.OK {
		return nil, e
	}
	if f := p.held[n]; f != nil {
		return f, api.OK
	}
	return nil, api.ErrAbsent
}

// bring: page n, held now if it wasn't; it is used.
func (p *Pool) bring(n int) (*frame, api.Errno) {
	f, e := p.find(n)
	if e == api.ErrAbsent {
		f, e = p.fetch(n)
	}
	if e != api.OK {
		return nil, e
	}
	p.use(f)
	return f, api.OK
}

func (p *Pool) use(f *frame) {
	p.uses++
	f.used = p.uses
}

// fetch: page n comes from the disk.
func (p *Pool) fetch(n int) (*frame, api.Errno) {
	if e := p.makeRoom(); e != api.OK {
		return nil, e
	}
	x, e := p.read(n)
	if e != api.OK {
		return nil, e
	}
	f := &frame{state: x}
	p.held[n] = f
	return f, api.OK
}

func (p *Pool) makeRoom() api.Errno {
	if len(p.held) < p.shape.Frames {
		return api.OK
	}
	f := p.idlest()
	if f == nil {
		return api.ErrFull
	}
	return p.leave(f)
}

// idlest: of the pages that are not pinned the one that was used longest ago, or nil.
func (p *Pool) idlest() *frame {
	var out *frame
	for _, f := range p.held {
		if f.pins == 0 && (out == nil || f.used < out.used) {
			out = f
		}
	}
	return out
}

func (p *Pool) leave(f *frame) api.Errno {
	if e := p.write(f); e != api.OK {
		return e
	}
	delete(p.held, f.state.Number)
	return api.OK
}

func (p *Pool) read(n int) (page.Page, api.Errno) {
	b, err := twin.Read(p.disk, p.home(n))
	if e := p.told(err); e != api.OK {
		return page.Page{}, e
	}
	return page.Decode(b, n)
}

// write: a clean page is left as it is. Force comes first: no page on the disk may tell of what the log there doesn't.
func (p *Pool) write(f *frame) api.Errno {
	if !f.dirty() {
		return api.OK
	}
	b, e := page.Encode(f.state)
	if e != api.OK {
		return e
	}
	if e := p.told(p.log.Force(f.state.LSN)); e != api.OK {
		return e
	}
	if e := p.told(twin.Write(p.disk, twinAt, p.home(f.state.Number), b)); e != api.OK {
		return e
	}
	f.since = 0
	return api.OK
}

// home: of a page that reach has let through, which has one.
func (p *Pool) home(n int) int {
	home, _ := master.Home(p.shape, n)
	return home
}

// told: the number of what the log or the disk has answered; ErrDown ends the pool, which then holds nothing any more.
func (p *Pool) told(err error) api.Errno {
	e := api.Code(err)
	if e == api.ErrDown {
		p.ended = true
		clear(p.held)
	}
	return e
}
