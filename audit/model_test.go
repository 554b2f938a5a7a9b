package audit_test

import (
	"bytes"
	"encoding/binary"
	"math/rand/v2"
	"reflect"
	"slices"
	"testing"

	"quota/api"
	"quota/apply"
	"quota/audit"
	"quota/page"
	"quota/record"
)

// drawn: the same draws in every run.
func drawn(run int) *rand.Rand { return rand.New(rand.NewPCG(22, uint64(run))) }

// plain: an image in the words of the chapters, byte by byte; no disk, no master, no twin, no log of the program's.
type plain struct {
	image  []byte
	report audit.Report
	pages  []page.Page // those that aren't torn
}

func (p *plain) sector(i int) []byte { return p.image[i*512 : (i+1)*512] }

// plainLook: what Look must answer, and Clean.
func plainLook(image []byte) (audit.Report, bool, api.Errno) {
	n := len(image) / 512
	if len(image)%512 != 0 || n < 1 || n > 8192 {
		return audit.Report{}, false, api.ErrImage
	}
	p := &plain{image: slices.Clone(image)}
	if !p.master(n) {
		return audit.Report{}, false, api.ErrMaster
	}
	if !p.twin(n) {
		return audit.Report{}, false, api.ErrTwin
	}
	if !p.log() {
		return audit.Report{}, false, api.ErrLog
	}
	p.read()
	return p.report, p.clean(), api.OK
}

// master: the right slot with the greater stamp.
func (p *plain) master(n int) bool {
	stamp := uint64(0)
	for i := range min(2, n) {
		s := p.sector(i)
		its := binary.LittleEndian.Uint64(s[1:])
		shape := api.Shape{Pages: int(s[9]), Log: int(binary.LittleEndian.Uint16(s[10:])), Frames: int(s[12])}
		point := binary.LittleEndian.Uint32(s[13:])
		may := shape.Pages >= 2 && shape.Pages <= 64 && shape.Log >= 4 && shape.Log <= 4096 && shape.Frames >= 2 && shape.Frames <= 16 && 5+2*shape.Pages+shape.Log == n
		right := s[0] == 0x4d && s[511] == s[1] && its >= 1 && its <= 1<<62 && its%2 == uint64(i) && may && point <= 1<<31-1 && len(bytes.Trim(s[17:511], "\x00")) == 0
		if right && its > stamp {
			stamp, p.report.Shape, p.report.Point = its, shape, int(point)
		}
	}
	return stamp > 0
}

// twin: finished, if its marker makes sense.
func (p *plain) twin(n int) bool {
	m := p.sector(2)
	if m[511] == 0 {
		return true
	}
	home := int(binary.LittleEndian.Uint32(m))
	if m[511] != 0xa5 || len(bytes.Trim(m[4:511], "\x00")) > 0 || home+1 >= n || home < 5 && home > 0 {
		return false
	}
	p.report.Finish = true
	copy(p.image[home*512:], slices.Clone(p.image[3*512:5*512]))
	return true
}

// log: its records, if they make sense.
func (p *plain) log() bool {
	for lsn := 1; lsn <= p.report.Shape.Log; lsn++ {
		s := p.sector(5 + 2*p.report.Shape.Pages + lsn - 1)
		n := int(binary.LittleEndian.Uint16(s[5:]))
		if s[0] != 0x6c || s[511] != 0xa5 || int(binary.LittleEndian.Uint32(s[1:])) != lsn || n < 1 || n > 502 || 7+n < 511 && len(bytes.Trim(s[7+n:511], "\x00")) > 0 {
			return true
		}
		r, e := record.Decode(s[7 : 7+n])
		r.LSN = lsn
		if e != api.OK || record.Check(r) != api.OK {
			return false
		}
		p.report.Records = append(p.report.Records, r)
	}
	return true
}

// read: what stands in the pages, by ID and then as the pages have it.
func (p *plain) read() {
	for n := range p.report.Shape.Pages {
		q, e := page.Decode(p.image[(5+2*n)*512:(7+2*n)*512], n)
		switch {
		case e != api.OK:
			p.report.Torn = append(p.report.Torn, n)
			continue
		case q.LSN > len(p.report.Records):
			p.report.Ahead = append(p.report.Ahead, n)
		}
		p.pages = append(p.pages, q)
	}
	for _, q := range p.pages {
		for _, c := range q.Counters {
			at := 0
			for at < len(p.report.Counters) && p.report.Counters[at].ID <= c.ID {
				at++
			}
			p.report.Counters = slices.Insert(p.report.Counters, at, c)
		}
		for _, g := range q.Groups {
			at := 0
			for at < len(p.report.Groups) && p.report.Groups[at].ID <= g.ID {
				at++
			}
			p.report.Groups = slices.Insert(p.report.Groups, at, g)
		}
	}
}

func (p *plain) clean() bool {
	return len(p.report.Torn)+len(p.report.Ahead) == 0 && !slices.ContainsFunc(p.pages, func(q page.Page) bool { return !p.behind(q) })
}

// behind: page by page, each from an empty one on.
func (p *plain) behind(q page.Page) bool {
	made := page.Page{Number: q.Number}
	for _, r := range p.report.Records[:q.LSN] {
		if !slices.Contains(apply.Pages(r), q.Number) {
			continue
		}
		next, _, e := apply.Do(made, r)
		if e != api.OK {
			return false
		}
		made = next
	}
	a, e := page.Encode(made)
	b, f := page.Encode(q)
	return e == api.OK && f == api.OK && bytes.Equal(a, b)
}

// spoil: one thing, drawn, that a look may stumble over.
func (h *hand) spoil(d *rand.Rand) {
	s, logs := h.shape, 5+2*h.shape.Pages
	any := func(from, n int) []byte { return h.sector(from + d.IntN(n)) }
	edge := []int{0, 1, 4, 5, 7, 10, 16, 17, 100, 510, 511}[d.IntN(11)]
	switch d.IntN(10) {
	case 0:
		any(0, 3)[edge] ^= 1 << d.IntN(8)
		if d.IntN(2) == 0 {
			clear(any(0, 2))
		}
	case 1:
		h.slot(1+d.IntN(6), d.IntN(9))
	case 2:
		h.marker(d.IntN(len(h.image)/512+3), h.image[d.IntN(len(h.image)-1024):][:1024])
	case 3:
		h.marker(5+2*d.IntN(s.Pages), h.image[(5+2*d.IntN(s.Pages))*512:][:1024])
	case 4:
		any(logs, s.Log)[edge] ^= 1 << d.IntN(8)
	case 5:
		clear(any(logs, s.Log))
	case 6:
		copy(any(logs, s.Log), any(logs, s.Log))
	case 7:
		h.image[5*512+d.IntN(2*s.Pages*512)] ^= 1 << d.IntN(8)
	case 8:
		h.otherRecord(d)
	default:
		h.otherPage(d)
	}
}

// otherRecord: one of the log's with another field.
func (h *hand) otherRecord(d *rand.Rand) {
	lsn := 1 + d.IntN(h.shape.Log)
	s := h.logAt(lsn)
	r, e := record.Decode(s[7 : 7+min(502, int(s[5]))])
	if e != api.OK {
		return
	}
	switch d.IntN(5) {
	case 0:
		r.Delta++
	case 1:
		r.Where.Index++
	case 2:
		r.Sums.Page = (r.Sums.Page + 1) % 4
	case 3:
		r.Counter.ID++
	default:
		r.Kind = 9 - r.Kind
	}
	if b, e := record.Encode(r); e == api.OK {
		h.raw(lsn, b)
	}
}

// otherPage: one of the pages with another field.
func (h *hand) otherPage(d *rand.Rand) {
	n := d.IntN(h.shape.Pages)
	p, e := page.Decode(h.image[(5+2*n)*512:(7+2*n)*512], n)
	if e != api.OK {
		return
	}
	k := 0
	if len(p.Counters)+len(p.Groups) > 0 {
		k = d.IntN(len(p.Counters) + len(p.Groups))
	}
	switch of := d.IntN(5); {
	case of == 0:
		p.LSN++
	case of == 1:
		p.LSN--
	case len(p.Counters) > 0 && of == 2:
		p.Counters[k].Value++
	case len(p.Counters) > 0:
		p.Counters[k].ID++
	case len(p.Groups) > 0 && of == 2:
		p.Groups[k].Sum++
	case len(p.Groups) > 0:
		p.Groups[k].ID++
	}
	if b, e := page.Encode(p); e == api.OK {
		copy(h.image[(5+2*n)*512:], b)
	}
}

// TestSpoiltImages: of stores with a drawn past, one or more things spoilt; held against the plain words.
func TestSpoiltImages(t *testing.T) {
	t.Parallel()
	met := map[api.Errno]int{}
	var torn, ahead, finish, cleans, others int
	for round := range 60 {
		d := drawn(1000 + round)
		image := pastOf(t, d)
		for range 120 {
			h := &hand{t, storeShape, slices.Clone(image)}
			for range d.IntN(3) + d.IntN(3) {
				h.spoil(d)
			}
			if d.IntN(50) == 0 {
				h.image = h.image[:d.IntN(len(h.image)+1)]
			}
			want, clean, fault := plainLook(h.image)
			got, e := audit.Look(h.image)
			if e != fault || !alike(got, want) {
				t.Fatalf("P22.2: round %d: Look = %v, %d, want %v, %d", round, got, e, want, fault)
			}
			if ok, e := audit.Clean(h.image); ok != clean || e != fault {
				t.Fatalf("P22.4: round %d: Clean = %v, %d, want %v, %d; %v", round, ok, e, clean, fault, want)
			}
			met[fault]++
			torn += min(1, len(want.Torn))
			ahead += min(1, len(want.Ahead))
			switch {
			case clean && want.Finish:
				finish++
			case clean:
				cleans++
			case fault == api.OK && len(want.Torn)+len(want.Ahead) == 0:
				others++
			}
		}
	}
	for _, fault := range []api.Errno{api.OK, api.ErrImage, api.ErrMaster, api.ErrTwin, api.ErrLog} {
		if met[fault] < 60 {
			t.Errorf("a poor draw: only %d answers are %d", met[fault], fault)
		}
	}
	if min(torn, ahead, finish, cleans, others) < 100 {
		t.Errorf("a poor draw: %d torn, %d ahead, %d clean with a twin to finish, %d clean without, %d not behind the log", torn, ahead, finish, cleans, others)
	}
}

// alike: nil and empty are one.
func alike(a, b audit.Report) bool {
	return a.Shape == b.Shape && a.Point == b.Point && a.Finish == b.Finish && slices.Equal(a.Counters, b.Counters) && slices.Equal(a.Groups, b.Groups) && slices.Equal(a.Ahead, b.Ahead) && slices.Equal(a.Torn, b.Torn) &&
		slices.EqualFunc(a.Records, b.Records, func(r, s api.Record) bool {
			for _, p := range []*api.Points{&r.Points, &s.Points} {
				p.Live, p.Dirty = append([]api.Live{}, p.Live...), append([]api.Dirty{}, p.Dirty...)
			}
			return reflect.DeepEqual(r, s)
		})
}
