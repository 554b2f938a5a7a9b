package analysis_test

import (
	"math/rand/v2"
	"slices"
	"testing"

	"quota/analysis"
	"quota/api"
)

func run(t *testing.T, all []api.Record, point int) analysis.Found {
	t.Helper()
	f, e := analysis.Run(all, point)
	if e != api.OK {
		t.Fatalf("P17.2: %v from %d on: %d", all, point, e)
	}
	return f
}

// written: some of the pages are no longer dirty, and some only since a later record.
func written(rnd *rand.Rand, pages []api.Dirty, lsn int) []api.Dirty {
	var out []api.Dirty
	for _, d := range pages {
		if len(out) < 16 && rnd.IntN(3) > 0 {
			d.Since += rnd.IntN(2) * rnd.IntN(lsn-d.Since)
			out = append(out, d)
		}
	}
	return out
}

// honest: every checkpoint tells what Run finds ahead of it, of the dirty pages a part.
func honest(t *testing.T, rnd *rand.Rand, all []api.Record) {
	t.Helper()
	for k := range all {
		if all[k].Kind == api.Checkpoint {
			f := run(t, all[:k], 0)
			all[k].Points = api.Points{Live: f.Live, Dirty: written(rnd, f.Dirty, k+1), Next: f.Next}
		}
	}
}

// find: the page's Since, 0 if it is not dirty.
func find(pages []api.Dirty, n int) int {
	k := slices.IndexFunc(pages, func(d api.Dirty) bool { return d.Page == n })
	if k < 0 {
		return 0
	}
	return pages[k].Since
}

func wantBeginningIsNothing(t *testing.T, all []api.Record, point int) {
	t.Helper()
	first, f := run(t, all, 0), run(t, all, point)
	if !slices.Equal(f.Live, first.Live) || f.Next != first.Next {
		t.Fatalf("P17.3: of %v from %d on: %v, from the first on %v", all, point, f, first)
	}
	for _, d := range f.Dirty {
		if since := find(first.Dirty, d.Page); since == 0 || since > d.Since {
			t.Fatalf("P17.3: of %v page %d is dirty since %d, from the first on since %d", all, d.Page, d.Since, since)
		}
	}
	for _, r := range all[point:] {
		for n := range 64 {
			if touches(r, n) && (find(f.Dirty, n) == 0 || find(first.Dirty, n) == 0) {
				t.Fatalf("P17.3: of %v page %d is not dirty behind record %d", all, n, r.LSN)
			}
		}
	}
	if f.From != 0 && (first.From == 0 || first.From > f.From) {
		t.Fatalf("P17.3: of %v redo goes from %d on, from the first on from %d", all, f.From, first.From)
	}
}

func TestWhereItBeginsIsNothing(t *testing.T) {
	rnd := rand.New(rand.NewPCG(17, 5))
	points, fewer := 0, 0
	for range 500 {
		all := drawLog(rnd, rnd.IntN(80))
		honest(t, rnd, all)
		for k, r := range all {
			if r.Kind == api.Checkpoint {
				wantBeginningIsNothing(t, all, k+1)
				points++
				if len(run(t, all, k+1).Dirty) < len(run(t, all, 0).Dirty) {
					fewer++
				}
			}
		}
	}
	if points < 1000 || fewer < 500 {
		t.Errorf("the draw is poor: %d points, of %d fewer pages are dirty", points, fewer)
	}
}

// wantLivesBehind: each that lives has begun behind the point or lived there, and has no End behind it.
func wantLivesBehind(t *testing.T, all []api.Record, point int, live []api.Live) {
	t.Helper()
	var there []api.Live
	if point > 0 {
		there = all[point-1].Points.Live
	}
	for _, x := range live {
		is := func(k api.Kind) bool {
			return slices.ContainsFunc(all[point:], func(r api.Record) bool { return r.Kind == k && r.Tx == x.Tx })
		}
		lived := slices.ContainsFunc(there, func(y api.Live) bool { return y.Tx == x.Tx })
		if !is(api.Begin) && !lived || is(api.End) {
			t.Fatalf("P17.4: of %v from %d on %d lives", all, point, x.Tx)
		}
	}
}

// TestALogThatGrows: right logs, honest checkpoints and others, whatever is cut off behind the point.
func TestALogThatGrows(t *testing.T) {
	rnd := rand.New(rand.NewPCG(17, 6))
	runs, refusals := 0, 0
	for n := range 400 {
		all := drawLog(rnd, 1+rnd.IntN(40))
		if n%2 == 0 {
			spoil(rnd, &all[rnd.IntN(len(all))])
		}
		for point := range len(all) + 1 {
			f, e := analysis.Run(all, point)
			if e != api.OK {
				refusals++
				continue
			}
			wantLivesBehind(t, all, point, f.Live)
			for many := point; many < len(all); many++ {
				if _, e := analysis.Run(all[:many], point); e != api.OK {
					t.Fatalf("P17.4: of %v from %d on the first %d: %d", all, point, many, e)
				}
				runs++
			}
		}
	}
	if runs < 5000 || refusals < 1000 {
		t.Errorf("the draw is poor: %d runs, %d refusals", runs, refusals)
	}
}
