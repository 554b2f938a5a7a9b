package interval_test

import (
	"math"
	"math/big"
	"testing"

	"quota/api"
	"quota/interval"
)

const (
	most  = math.MaxInt64
	least = math.MinInt64
)

// edges: where sums begin and cease to fit, the halves' own borders among them.
var edges = []int64{
	least, least + 1, least + 2, least / 2, least/2 - 1, -1 << 32, -1<<32 - 1, -1 << 31, -7, -2, -1,
	0, 1, 2, 7, 1 << 31, 1<<32 - 1, 1 << 32, most / 2, most/2 + 1, most - 2, most - 1, most,
}

// narrow is the reading of P1.2 to P1.4 that the calls are held to: whole numbers without bound, and whether they fit.
func narrow(n *big.Int) (int64, api.Errno) {
	if !n.IsInt64() {
		return 0, api.ErrOverflow
	}
	return n.Int64(), api.OK
}

func whole(n int64) *big.Int { return big.NewInt(n) }

func sum(list []int64) *big.Int {
	total := whole(0)
	for _, n := range list {
		total.Add(total, whole(n))
	}
	return total
}

func sumFits(list []int64) (int64, api.Errno) { return narrow(sum(list)) }

func worst(base int64, nets []int64) (api.Range, api.Errno) {
	low, high := []int64{base}, []int64{base}
	for _, n := range nets {
		if n < 0 {
			low = append(low, n)
		}
		if n > 0 {
			high = append(high, n)
		}
	}
	lo, e := sumFits(low)
	if e != api.OK {
		return api.Range{}, e
	}
	hi, e := sumFits(high)
	if e != api.OK {
		return api.Range{}, e
	}
	return api.Range{Lo: lo, Hi: hi}, api.OK
}

// drawer gives numbers that look drawn but are the same in every run.
type drawer uint64

func (d *drawer) next() uint64 {
	*d += 0x9e3779b97f4a7c15
	z := uint64(*d)
	z = (z ^ z>>30) * 0xbf58476d1ce4e5b9
	z = (z ^ z>>27) * 0x94d049bb133111eb
	return z ^ z>>31
}

func (d *drawer) below(n int) int { return int(d.next() % uint64(n)) }

// number: an edge, a number of any size, or a small one.
func (d *drawer) number() int64 {
	switch d.below(3) {
	case 0:
		return edges[d.below(len(edges))]
	case 1:
		return int64(d.next()) >> d.below(64)
	}
	return int64(d.below(21)) - 10
}

func (d *drawer) list(longest int) []int64 {
	list := make([]int64, d.below(longest+1))
	for i := range list {
		list[i] = d.number()
	}
	return list
}

func shuffled(d *drawer, list []int64) []int64 {
	out := append([]int64(nil), list...)
	for i := len(out) - 1; i > 0; i-- {
		j := d.below(i + 1)
		out[i], out[j] = out[j], out[i]
	}
	return out
}

func permutations(list []int64) [][]int64 {
	if len(list) == 0 {
		return [][]int64{nil}
	}
	var out [][]int64
	for i := range list {
		rest := append(append([]int64(nil), list[:i]...), list[i+1:]...)
		for _, p := range permutations(rest) {
			out = append(out, append([]int64{list[i]}, p...))
		}
	}
	return out
}

// crossing: lists whose sums pass 64 bits on their way, some of which come back.
func crossing() [][]int64 {
	return [][]int64{
		nil, {}, {0}, {most}, {least},
		{most, 1, -1}, {least, -1, 1}, {most, 1}, {least, -1}, {most, least}, {most, least, 1},
		{most, most, least, least}, {least, least, most, most}, {most, most, least, least, 1, 1},
		{most, most, most, least, least, least}, {most, most, most, least, least}, {most, most, most, least},
		{least, least}, {least, least, least}, {least, least, least, most, most, most, 3},
		{most, most, 2}, {most, most, 2, least, least}, {least, least, 1, most, most}, {1, 1, 1, most, -3},
	}
}

func checkAdd(t *testing.T, a, b int64) {
	t.Helper()
	want, wantE := narrow(whole(0).Add(whole(a), whole(b)))
	if got, e := interval.Add(a, b); got != want || e != wantE {
		t.Errorf("P1.2: Add(%d, %d) = %d, %d, want %d, %d", a, b, got, e, want, wantE)
	}
}

func checkSub(t *testing.T, a, b int64) {
	t.Helper()
	want, wantE := narrow(whole(0).Sub(whole(a), whole(b)))
	if got, e := interval.Sub(a, b); got != want || e != wantE {
		t.Errorf("P1.2: Sub(%d, %d) = %d, %d, want %d, %d", a, b, got, e, want, wantE)
	}
}

func checkNeg(t *testing.T, a int64) {
	t.Helper()
	want, wantE := narrow(whole(0).Neg(whole(a)))
	if got, e := interval.Neg(a); got != want || e != wantE {
		t.Errorf("P1.2: Neg(%d) = %d, %d, want %d, %d", a, got, e, want, wantE)
	}
}

func checkSum(t *testing.T, list []int64) {
	t.Helper()
	want, wantE := sumFits(list)
	if got, e := interval.Sum(list...); got != want || e != wantE {
		t.Errorf("P1.3: Sum(%d) = %d, %d, want %d, %d", list, got, e, want, wantE)
	}
}

func checkWorst(t *testing.T, base int64, nets []int64) {
	t.Helper()
	want, wantE := worst(base, nets)
	if got, e := interval.Worst(base, nets...); got != want || e != wantE {
		t.Errorf("P1.4: Worst(%d, %d) = %d, %d, want %d, %d", base, nets, got, e, want, wantE)
	}
}

func TestExamplesOfSteps(t *testing.T) {
	for _, c := range []struct {
		name string
		call func() (int64, api.Errno)
		want int64
		e    api.Errno
	}{
		{"Add(M, 1)", func() (int64, api.Errno) { return interval.Add(most, 1) }, 0, api.ErrOverflow},
		{"Add(m, -1)", func() (int64, api.Errno) { return interval.Add(least, -1) }, 0, api.ErrOverflow},
		{"Add(M, m)", func() (int64, api.Errno) { return interval.Add(most, least) }, -1, api.OK},
		{"Sub(0, m)", func() (int64, api.Errno) { return interval.Sub(0, least) }, 0, api.ErrOverflow},
		{"Sub(-1, m)", func() (int64, api.Errno) { return interval.Sub(-1, least) }, most, api.OK},
		{"Neg(m)", func() (int64, api.Errno) { return interval.Neg(least) }, 0, api.ErrOverflow},
		{"Neg(M)", func() (int64, api.Errno) { return interval.Neg(most) }, least + 1, api.OK},
		{"Sum()", func() (int64, api.Errno) { return interval.Sum() }, 0, api.OK},
		{"Sum(M, 1, -1)", func() (int64, api.Errno) { return interval.Sum(most, 1, -1) }, most, api.OK},
		{"Sum(M, M, m, m)", func() (int64, api.Errno) { return interval.Sum(most, most, least, least) }, -2, api.OK},
		{"Sum(M, 1)", func() (int64, api.Errno) { return interval.Sum(most, 1) }, 0, api.ErrOverflow},
	} {
		if got, e := c.call(); got != c.want || e != c.e {
			t.Errorf("%s = %d, %d, want %d, %d", c.name, got, e, c.want, c.e)
		}
	}
}

func TestExamplesOfWorst(t *testing.T) {
	for _, c := range []struct {
		base int64
		nets []int64
		want api.Range
		e    api.Errno
	}{
		{5, []int64{3, -2, -4, 0}, api.Range{Lo: -1, Hi: 8}, api.OK},
		{most, []int64{1, -1}, api.Range{}, api.ErrOverflow},
		{least, []int64{most, most}, api.Range{Lo: least, Hi: most - 1}, api.OK},
		{least, []int64{most, most, 1}, api.Range{Lo: least, Hi: most}, api.OK},
		{least, []int64{most, most, 2}, api.Range{}, api.ErrOverflow},
	} {
		if got, e := interval.Worst(c.base, c.nets...); got != c.want || e != c.e {
			t.Errorf("Worst(%d, %d) = %d, %d, want %d, %d", c.base, c.nets, got, e, c.want, c.e)
		}
	}
}

// TestListsAreLeftAlone: P1.1. The spare room behind a list belongs to whoever handed it in.
func TestListsAreLeftAlone(t *testing.T) {
	calls := map[string]func(list ...int64){
		"Sum":   func(list ...int64) { interval.Sum(list...) },
		"Worst": func(list ...int64) { interval.Worst(3, list...) },
	}
	for name, call := range calls {
		for _, list := range crossing() {
			whole := append(append([]int64(nil), list...), 11, -12, 13)
			before := append([]int64(nil), whole...)
			call(whole[:len(list)]...)
			for i := range whole {
				if whole[i] != before[i] {
					t.Errorf("P1.1: %s(%d) has made %d of %d", name, list, whole, before)
					break
				}
			}
		}
	}
}

// TestListsAreNotKept: P1.1. What becomes of a list behind a call has no say in the next one.
func TestListsAreNotKept(t *testing.T) {
	list := []int64{most, 1, -1}
	interval.Sum(list...)
	interval.Worst(0, list...)
	list[0], list[1], list[2] = 1, 2, 3
	checkSum(t, list)
	checkWorst(t, 0, list)
	checkSum(t, nil)
	checkWorst(t, 4, nil)
}

// TestErrorsComeAlone: P1.1. With an error the other answer is its zero value.
func TestErrorsComeAlone(t *testing.T) {
	numbers := map[string]func() (int64, api.Errno){
		"Add": func() (int64, api.Errno) { return interval.Add(most, most) },
		"Sub": func() (int64, api.Errno) { return interval.Sub(least, most) },
		"Neg": func() (int64, api.Errno) { return interval.Neg(least) },
		"Sum": func() (int64, api.Errno) { return interval.Sum(least, most, most, 2) },
	}
	for name, call := range numbers {
		if n, e := call(); n != 0 || e != api.ErrOverflow {
			t.Errorf("P1.1: %s beyond 64 bits = %d, %d, want 0, %d", name, n, e, api.ErrOverflow)
		}
	}
	for _, nets := range [][]int64{{-5, 1}, {-1, least}, {most, most, 9}, {-1, most, most, most}} {
		if r, e := interval.Worst(least, nets...); r != (api.Range{}) || e != api.ErrOverflow {
			t.Errorf("P1.1: Worst(m, %d) = %d, %d, want a zero range, %d", nets, r, e, api.ErrOverflow)
		}
	}
}

// TestLongLists: P1.1, P1.3, P1.4. Lists far longer than the halves have bits.
func TestLongLists(t *testing.T) {
	const times = 100000
	list := make([]int64, 0, 2*times)
	for range times {
		list = append(list, most)
	}
	if _, e := interval.Sum(list...); e != api.ErrOverflow {
		t.Errorf("P1.3: %d times the greatest: %d, want %d", times, e, api.ErrOverflow)
	}
	for range times {
		list = append(list, least)
	}
	if n, e := interval.Sum(list...); n != -times || e != api.OK {
		t.Errorf("P1.3: %d times each end = %d, %d, want %d, 0", times, n, e, -times)
	}
	if r, e := interval.Worst(0, list...); r != (api.Range{}) || e != api.ErrOverflow {
		t.Errorf("P1.4: %d times each end = %d, %d, want a zero range, %d", times, r, e, api.ErrOverflow)
	}
}

func TestSteps(t *testing.T) {
	for _, a := range edges {
		checkNeg(t, a)
		for _, b := range edges {
			checkAdd(t, a, b)
			checkSub(t, a, b)
		}
	}
	d := drawer(2)
	for range 20000 {
		a, b := d.number(), d.number()
		checkNeg(t, a)
		checkAdd(t, a, b)
		checkSub(t, a, b)
	}
}

func TestSum(t *testing.T) {
	for _, list := range crossing() {
		checkSum(t, list)
	}
	for _, a := range edges {
		checkSum(t, []int64{a})
		for _, b := range edges {
			for _, c := range edges {
				checkSum(t, []int64{a, b, c})
			}
		}
	}
	d := drawer(3)
	for range 20000 {
		checkSum(t, d.list(12))
	}
}

func TestWorst(t *testing.T) {
	for _, base := range edges {
		checkWorst(t, base, nil)
		for _, nets := range crossing() {
			checkWorst(t, base, nets)
		}
		for _, a := range edges {
			for _, b := range edges {
				checkWorst(t, base, []int64{a, b})
			}
		}
	}
	d := drawer(4)
	for range 20000 {
		checkWorst(t, d.number(), d.list(12))
	}
}

func TestCheckAndHas(t *testing.T) {
	for _, lo := range edges {
		for _, hi := range edges {
			r := api.Range{Lo: lo, Hi: hi}
			want := api.OK
			if lo > hi {
				want = api.ErrRange
			}
			if e := interval.Check(r); e != want {
				t.Errorf("P1.5: Check(%d) = %d, want %d", r, e, want)
			}
			for _, v := range edges {
				if got, want := interval.Has(r, v), v >= lo && v <= hi; got != want {
					t.Errorf("P1.5: Has(%d, %d) = %v", r, v, got)
				}
			}
		}
	}
	for _, c := range []struct {
		r    api.Range
		v    int64
		e    api.Errno
		want bool
	}{
		{api.Range{Lo: 3, Hi: 2}, 3, api.ErrRange, false},
		{api.Range{Lo: 3, Hi: 2}, 2, api.ErrRange, false},
		{api.Range{Lo: 2, Hi: 2}, 2, api.OK, true},
		{api.Range{Lo: most, Hi: least}, 0, api.ErrRange, false},
		{api.Range{Lo: least, Hi: most}, 0, api.OK, true},
	} {
		if e, has := interval.Check(c.r), interval.Has(c.r, c.v); e != c.e || has != c.want {
			t.Errorf("P1.5: Check(%d) = %d, Has(%d, %d) = %v, want %d, %v", c.r, e, c.r, c.v, has, c.e, c.want)
		}
	}
}

// TestWithin: P1.5, number by number in small ranges, and at the ends of all numbers.
func TestWithin(t *testing.T) {
	for aLo := int64(-3); aLo <= 3; aLo++ {
		for aHi := int64(-3); aHi <= 3; aHi++ {
			for bLo := int64(-3); bLo <= 3; bLo++ {
				for bHi := int64(-3); bHi <= 3; bHi++ {
					want := true
					for v := aLo; v <= aHi; v++ {
						want = want && bLo <= v && v <= bHi
					}
					a, b := api.Range{Lo: aLo, Hi: aHi}, api.Range{Lo: bLo, Hi: bHi}
					if got := interval.Within(a, b); got != want {
						t.Errorf("P1.5: Within(%d, %d) = %v", a, b, got)
					}
				}
			}
		}
	}
	all, none := api.Range{Lo: least, Hi: most}, api.Range{Lo: most, Hi: least}
	for _, c := range []struct {
		a, b api.Range
		want bool
	}{
		{all, all, true}, {none, all, true}, {none, none, true}, {all, none, false},
		{all, api.Range{Lo: least, Hi: most - 1}, false}, {all, api.Range{Lo: least + 1, Hi: most}, false},
		{api.Range{Lo: 3, Hi: 2}, api.Range{Lo: 9, Hi: 9}, true},
		{api.Range{Lo: 2, Hi: 3}, api.Range{Lo: 2, Hi: 3}, true},
		{api.Range{Lo: 2, Hi: 4}, api.Range{Lo: 2, Hi: 3}, false},
	} {
		if got := interval.Within(c.a, c.b); got != c.want {
			t.Errorf("P1.5: Within(%d, %d) = %v", c.a, c.b, got)
		}
	}
}

// checkOutcomes goes through every subset of the nets.
func checkOutcomes(t *testing.T, base int64, nets []int64) {
	t.Helper()
	r, e := interval.Worst(base, nets...)
	if e != api.OK {
		return
	}
	lowMet, highMet := false, false
	for set := 0; set < 1<<len(nets); set++ {
		chosen := []int64{base}
		for i, n := range nets {
			if set>>i&1 == 1 {
				chosen = append(chosen, n)
			}
		}
		v, e := interval.Sum(chosen...)
		if e != api.OK || !interval.Has(r, v) {
			t.Errorf("P1.6: Worst(%d, %d) = %d, but %d have the sum %d, %d", base, nets, r, chosen, v, e)
		}
		lowMet = lowMet || v == r.Lo
		highMet = highMet || v == r.Hi
	}
	if !lowMet || !highMet {
		t.Errorf("P1.6: Worst(%d, %d) = %d: its ends are no sums (Lo %v, Hi %v)", base, nets, r, lowMet, highMet)
	}
}

func TestOutcomes(t *testing.T) {
	for _, nets := range crossing() {
		for _, base := range edges {
			checkOutcomes(t, base, nets)
		}
	}
	d := drawer(6)
	for range 3000 {
		checkOutcomes(t, d.number(), d.list(7))
	}
}

// checkOrder: the numbers in another order have the same sum and the same worst case.
func checkOrder(t *testing.T, base int64, list, other []int64) {
	t.Helper()
	n, e := interval.Sum(list...)
	if m, f := interval.Sum(other...); m != n || f != e {
		t.Errorf("P1.7: Sum(%d) = %d, %d, but Sum(%d) = %d, %d", list, n, e, other, m, f)
	}
	r, e := interval.Worst(base, list...)
	if q, f := interval.Worst(base, other...); q != r || f != e {
		t.Errorf("P1.7: Worst(%d, %d) = %d, %d, but Worst(%d, %d) = %d, %d", base, list, r, e, base, other, q, f)
	}
}

func TestOrderIsNothing(t *testing.T) {
	for _, list := range crossing() {
		for _, other := range permutations(list) {
			checkOrder(t, 0, list, other)
			checkOrder(t, -1, list, other)
		}
	}
	d := drawer(7)
	for range 5000 {
		list := d.list(20)
		checkOrder(t, d.number(), list, shuffled(&d, list))
	}
}
