package sectors_test

import (
	"bytes"
	"math"
	"math/big"
	"math/rand/v2"
	"testing"

	"quota/api"
	"quota/sectors"
)

// model: the chapter's words, each sector by itself, and a loss's Keep as one number without bound.
type model struct {
	durable [][]byte
	cache   []api.Pending
	down    bool
	calls   int
	crashAt int // the number of the changing call that crashes; 0: not armed
	keep    *big.Int
	torn    int
	offset  int
}

func newModel(image []byte) *model {
	m := &model{}
	for ; len(image) > 0; image = image[512:] {
		m.durable = append(m.durable, bytes.Clone(image[:512]))
	}
	return m
}

// number: Keep's bits, bit 0 of Keep[0] the lowest.
func number(keep []uint64) *big.Int {
	n := new(big.Int)
	for i := len(keep) - 1; i >= 0; i-- {
		n.Lsh(n, 64).Or(n, new(big.Int).SetUint64(keep[i]))
	}
	return n
}

func (m *model) read(i int) ([]byte, api.Errno) {
	switch {
	case m.down:
		return nil, api.ErrDown
	case i < 0 || i > len(m.durable)-1:
		return nil, api.ErrSector
	}
	content := m.durable[i]
	for _, w := range m.cache {
		if w.Sector == i {
			content = w.Bytes
		}
	}
	return content, api.OK
}

func (m *model) write(i int, b []byte) api.Errno {
	switch {
	case m.down:
		return api.ErrDown
	case i < 0 || i > len(m.durable)-1:
		return api.ErrSector
	case len(b) != 512:
		return api.ErrData
	}
	m.calls++
	m.cache = append(m.cache, api.Pending{Sector: i, Bytes: bytes.Clone(b)})
	if m.calls == m.crashAt {
		m.giveUp(m.keep, m.torn, m.offset)
		return api.ErrDown
	}
	return api.OK
}

func (m *model) sync() api.Errno {
	if m.down {
		return api.ErrDown
	}
	m.calls++
	if m.calls == m.crashAt {
		m.giveUp(m.keep, m.torn, m.offset)
		return api.ErrDown
	}
	for _, w := range m.cache {
		m.durable[w.Sector] = w.Bytes
	}
	m.cache = nil
	return api.OK
}

func (m *model) arm(step int, l api.Loss) api.Errno {
	switch {
	case m.down:
		return api.ErrDown
	case step < 0:
		return api.ErrPlace
	case step == 0:
		m.crashAt = 0
	default:
		m.crashAt = m.calls + step
		m.keep, m.torn, m.offset = number(l.Keep), l.Torn, l.Offset
	}
	return api.OK
}

func (m *model) crash(l api.Loss) api.Errno {
	if m.down {
		return api.ErrDown
	}
	m.giveUp(number(l.Keep), l.Torn, l.Offset)
	return api.OK
}

func (m *model) giveUp(keep *big.Int, torn, offset int) {
	for k, w := range m.cache {
		after := bytes.Clone(m.durable[w.Sector])
		for at := range after {
			if keep.Bit(k) == 1 || k == torn && at < offset {
				after[at] = w.Bytes[at]
			}
		}
		m.durable[w.Sector] = after
	}
	m.cache, m.down, m.crashAt = nil, true, 0
}

func (m *model) up() api.Errno {
	m.down, m.crashAt = false, 0
	return api.OK
}

// checkTold holds all that can be asked at any time against the model.
func checkTold(t *testing.T, d *sectors.Device, m *model) {
	t.Helper()
	if got, want := d.Image(), bytes.Join(m.durable, nil); !bytes.Equal(got, want) {
		t.Fatalf("P3.6: the image differs from byte %d on", differs(got, want))
	}
	if d.Sectors() != len(m.durable) || d.Calls() != m.calls || d.Down() != m.down {
		t.Fatalf("P3.6: Sectors, Calls, Down = %d, %d, %v, want %d, %d, %v", d.Sectors(), d.Calls(), d.Down(), len(m.durable), m.calls, m.down)
	}
	checkCache(t, d.Cache(), m.cache)
	for i := -1; i <= len(m.durable); i++ {
		checkRead(t, d, m, i)
	}
}

func checkCache(t *testing.T, got, want []api.Pending) {
	t.Helper()
	if len(got) != len(want) {
		t.Fatalf("P3.6: the cache has %d writes, want %d", len(got), len(want))
	}
	for k := range want {
		if got[k].Sector != want[k].Sector || !bytes.Equal(got[k].Bytes, want[k].Bytes) {
			t.Fatalf("P3.6: pending write number %d is another one", k)
		}
	}
}

func checkRead(t *testing.T, d *sectors.Device, m *model, i int) {
	t.Helper()
	got, e := d.Read(i)
	want, e2 := m.read(i)
	if e != e2 || !bytes.Equal(got, want) || e != api.OK && got != nil {
		t.Fatalf("P3.3: Read(%d) = %.4x.., %d, want %.4x.., %d", i, got, e, want, e2)
	}
}

func differs(a, b []byte) int {
	for i := range min(len(a), len(b)) {
		if a[i] != b[i] {
			return i
		}
	}
	return min(len(a), len(b))
}

// drawn: numbers that look drawn but are the same in every run.
func drawn(run int) *rand.Rand { return rand.New(rand.NewPCG(3, uint64(run))) }

func drawnSector(r *rand.Rand) []byte {
	b := make([]byte, 512)
	for i := range b {
		b[i] = byte(r.Uint32())
	}
	return b
}

// drawnLoss: of a device with some pending writes; its torn one is there, or just beyond, or nowhere.
func drawnLoss(r *rand.Rand, pending int) api.Loss {
	l := api.Loss{Torn: r.IntN(pending+4) - 2, Offset: r.IntN(532) - 10}
	for range r.IntN(3) {
		l.Keep = append(l.Keep, r.Uint64())
	}
	switch r.IntN(12) {
	case 0:
		l.Torn, l.Offset = math.MinInt, math.MaxInt
	case 1:
		l.Torn, l.Offset = math.MaxInt, math.MinInt
	case 2:
		l.Offset = math.MaxInt
	case 3:
		l.Offset = math.MinInt
	}
	return l
}

// drawnCall makes one call of both, and answers what each said.
func drawnCall(r *rand.Rand, d *sectors.Device, m *model) (name string, got, want api.Errno) {
	n := len(m.durable)
	switch x := r.IntN(40); {
	case x < 22:
		i, b := r.IntN(n), drawnSector(r)
		return "Write", d.Write(i, b), m.write(i, b)
	case x < 24:
		i, b := r.IntN(3*n)-n, drawnSector(r)[:510+r.IntN(3)]
		return "Write", d.Write(i, b), m.write(i, b)
	case x < 28:
		return "Sync", d.Sync(), m.sync()
	case x < 34:
		step, l := r.IntN(9)-1, drawnLoss(r, len(m.cache)+4)
		got = d.Arm(step, l)
		want = m.arm(step, l)
		clear(l.Keep)
		return "Arm", got, want
	case x < 36:
		l := drawnLoss(r, len(m.cache))
		return "Crash", d.Crash(l), m.crash(l)
	default:
		return "Up", d.Up(), m.up()
	}
}

func TestEveryCallAnswersAsTheModel(t *testing.T) {
	for run := range 60 {
		r := drawn(run)
		image := make([]byte, 512*(1+r.IntN(5)))
		for i := range image {
			image[i] = byte(r.Uint32())
		}
		d, e := sectors.Load(image)
		if d == nil || e != api.OK {
			t.Fatalf("P3.2: Load = %d", e)
		}
		m := newModel(image)
		for range 150 {
			name, got, want := drawnCall(r, d, m)
			if got != want {
				t.Fatalf("run %d: %s = %d, want %d", run, name, got, want)
			}
			checkTold(t, d, m)
		}
	}
}
