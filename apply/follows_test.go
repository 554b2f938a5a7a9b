package apply_test

import (
	"math"
	"math/rand/v2"
	"testing"

	"quota/api"
	"quota/apply"
	"quota/page"
)

// drawDone: a page, a record that has something to do there, as the model says, and the page behind it.
func drawDone(t *testing.T, rnd *rand.Rand) (page.Page, api.Record, page.Page) {
	t.Helper()
	for {
		p := drawPage(rnd)
		r := drawRecord(rnd, p)
		if _, does, _ := modelDo(p, r); !does {
			continue
		}
		q, did, e := apply.Do(p, r)
		if !did || e != api.OK {
			t.Fatalf("P14.3: Do(%v, %v) = %v, %v, %d", p, r, q, did, e)
		}
		return p, r, q
	}
}

func TestOnce(t *testing.T) {
	rnd := drawn()
	for range 5000 {
		_, r, q := drawDone(t, rnd)
		for _, lsn := range []int{r.LSN, 1 + rnd.IntN(r.LSN), 1} {
			for _, kind := range []api.Kind{r.Kind, api.Create, api.Add, api.Undo} {
				s := turned(r, func(r *api.Record) { r.Kind, r.LSN, r.Delta = kind, lsn, drawNumber(rnd) })
				if again, did, e := apply.Do(q, s); !same(again, q) || did || e != api.OK {
					t.Fatalf("P14.4: behind %v, Do(%v, %v) = %v, %v, %d", r, q, s, again, did, e)
				}
			}
		}
	}
}

func TestBack(t *testing.T) {
	rnd := drawn()
	met := map[int64]int{}
	for done := 0; done < 3000; {
		p, r, q := drawDone(t, rnd)
		if r.Kind != api.Add || r.LSN == api.MaxLSN {
			continue
		}
		done++
		met[r.Delta]++
		for _, lsn := range []int{r.LSN + 1, r.LSN + 1 + rnd.IntN(api.MaxLSN-r.LSN), api.MaxLSN} {
			s := turned(r, func(r *api.Record) { r.Kind, r.LSN = api.Undo, lsn })
			want := p
			want.LSN = lsn
			if back, did, e := apply.Do(q, s); !same(back, want) || !did || e != api.OK {
				t.Fatalf("P14.5: behind %v, Do(%v, %v) = %v, %v, %d, want %v", r, q, s, back, did, e, want)
			}
		}
	}
	if met[math.MinInt64] < 10 || met[math.MaxInt64] < 10 {
		t.Errorf("the draw is lopsided: %d of the least, %d of the greatest", met[math.MinInt64], met[math.MaxInt64])
	}
}

// both: two records done one behind the other, with the LSN 10 and 11; whether each had something to do.
func both(p page.Page, r, s api.Record) (page.Page, bool, api.Errno) {
	r.LSN, s.LSN = 10, 11
	q, first, e := apply.Do(p, r)
	if e != api.OK {
		return q, first, e
	}
	q, second, e := apply.Do(q, s)
	return q, first && second, e
}

func TestAnyOrder(t *testing.T) {
	rnd := drawn()
	met := map[string]int{}
	for range 60_000 {
		p := drawPage(rnd)
		r, s := drawRecord(rnd, p), drawRecord(rnd, p)
		if rnd.IntN(2) == 0 {
			s.Where, s.Sums, s.Counter.ID = r.Where, r.Sums, r.Counter.ID
		}
		r.Kind, s.Kind, r.Tx, s.Tx = api.Add, api.Add, 1, 2
		a, didA, e := both(p, r, s)
		b, didB, f := both(p, s, r)
		if e == api.ErrOverflow || f == api.ErrOverflow {
			met["overflow"]++
			continue
		}
		if (e == api.OK) != (f == api.OK) || !same(a, b) || didA != didB {
			t.Fatalf("P14.6: %v and %v lead %v to %v, %d, or to %v, %d", r, s, p, a, e, b, f)
		}
		switch {
		case e != api.OK:
			met["refused"]++
		case didA && r.Where == s.Where && r.Sums == s.Sums:
			met["one slot"]++
		case didA:
			met["two slots"]++
		}
	}
	for _, what := range []string{"overflow", "refused", "one slot", "two slots"} {
		if met[what] < 500 {
			t.Errorf("%s is seldom met: %v", what, met)
		}
	}
}

// chain: records of rising LSN that mostly have something to say of one of two pages, 0 of counters and 3 of sums.
func chain(rnd *rand.Rand) []api.Record {
	var out []api.Record
	made, lsn := 0, 0
	for range rnd.IntN(40) {
		lsn += 1 + rnd.IntN(3)
		at := rnd.IntN(made + 1)
		r := api.Record{LSN: lsn, Tx: 1, Where: slot(0, at), Sums: slot(3, at%3), Counter: api.Counter{ID: at + 1}, Delta: drawNumber(rnd)}
		switch k := rnd.IntN(8); {
		case k < 3 && made < 31:
			r.Kind, r.Where.Index, r.Sums.Index = api.Create, made, made%3
			r.Counter = api.Counter{ID: made + 1, Group: made % 3, Value: rnd.Int64N(100)}
			made++
		case k < 5:
			r.Kind = api.Add
		case k < 7:
			r.Kind = api.Undo
		default:
			r.Kind, r.Where.Page, r.Sums.Page = api.Kind(1+rnd.IntN(8)), rnd.IntN(4), rnd.IntN(4)
		}
		out = append(out, r)
	}
	return out
}

// run: the records that are refused leave the page as it is.
func run(p page.Page, list []api.Record) (page.Page, int) {
	done := 0
	for _, r := range list {
		q, did, e := apply.Do(p, r)
		if e == api.OK {
			p = q
		}
		if did {
			done++
		}
	}
	return p, done
}

func TestChain(t *testing.T) {
	rnd := drawn()
	total := 0
	for range 2000 {
		list := chain(rnd)
		for _, number := range []int{0, 3} {
			first := rnd.IntN(len(list) + 1)
			want, done := run(page.Page{Number: number}, list)
			total += done
			half, _ := run(page.Page{Number: number}, list[:first])
			for _, start := range []page.Page{want, half} {
				got, _ := run(start, list[:first])
				got, _ = run(got, list)
				if !same(got, want) {
					t.Fatalf("P14.7: from %v on, the first %d and then all of %v lead to %v, want %v", start, first, list, got, want)
				}
			}
		}
	}
	if total < 20_000 {
		t.Errorf("only %d records had something to do", total)
	}
}

// TestSumsFollowValues: the two pages of a chain, both done, stay a sum and its values, which is what the records are for.
func TestSumsFollowValues(t *testing.T) {
	rnd := drawn()
	for range 300 {
		counters, sums := page.Page{Number: 0}, page.Page{Number: 3}
		for _, r := range chain(rnd) {
			p, didP, e := apply.Do(counters, r)
			q, didQ, f := apply.Do(sums, r)
			if e != api.OK || f != api.OK || !didP || !didQ {
				continue
			}
			counters, sums = p, q
			for k, g := range sums.Groups {
				total := int64(0)
				for at, c := range counters.Counters {
					if at%3 == k {
						total += c.Value
					}
				}
				if total != g.Sum {
					t.Fatalf("P14.3: behind %v, %v has not the sums of %v", r, sums, counters)
				}
			}
		}
	}
}
