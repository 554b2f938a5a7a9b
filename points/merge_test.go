package points_test

import (
	"cmp"
	"math/rand/v2"
	"slices"
	"testing"

	"quota/api"
	"quota/points"
)

func TestMergeAtTheEdges(t *testing.T) {
	wantMerge(t, dirty(0, 1), dirty(63, 1<<31-1), dirty(0, 1, 63, 1<<31-1))
	wantMerge(t, dirty(63, 1<<31-1), dirty(0, 1), dirty(0, 1, 63, 1<<31-1))
	wantMerge(t, dirty(63, 1<<31-1), dirty(63, 1), dirty(63, 1))
	wantMerge(t, dirty(0, 1), dirty(0, 1<<31-1), dirty(0, 1))
	wantMerge(t, dirty(5, 7), dirty(5, 7), dirty(5, 7))
}

// TestMergeOfOneList: it is put in order, and each page stands once, with the least Since wherever that stands.
func TestMergeOfOneList(t *testing.T) {
	for _, list := range [][]api.Dirty{
		dirty(3, 5, 3, 7, 3, 9, 1, 8), dirty(3, 7, 3, 5, 3, 9, 1, 8), dirty(3, 9, 1, 8, 3, 7, 3, 5), dirty(1, 9, 3, 5, 1, 8, 3, 6),
	} {
		wantMerge(t, list, nil, dirty(1, 8, 3, 5))
		wantMerge(t, nil, list, dirty(1, 8, 3, 5))
		wantMerge(t, list, list, dirty(1, 8, 3, 5))
		wantMerge(t, list[:2], list[2:], dirty(1, 8, 3, 5))
	}
}

// TestMergeOfMoreThanMayBeHeld: a pool holds 16 pages, a list may name all 64.
func TestMergeOfMoreThanMayBeHeld(t *testing.T) {
	var a, b, want []api.Dirty
	for n := range 64 {
		a = append(a, api.Dirty{Page: 63 - n, Since: 100 + n})
		b = append(b, api.Dirty{Page: n, Since: 130})
		want = append(want, api.Dirty{Page: n, Since: min(163-n, 130)})
	}
	wantMerge(t, a, b, want)
	wantMerge(t, b, a, want)
	wantMerge(t, b, nil, b)
}

func TestMergeOfLongLists(t *testing.T) {
	var a, b []api.Dirty
	for k := range 100_000 {
		a = append(a, api.Dirty{Page: k % 3, Since: 200_000 - k})
		b = append(b, api.Dirty{Page: 2 + k%2, Since: 150_000 - k})
	}
	wantMerge(t, a, b, dirty(0, 100_001, 1, 100_003, 2, 50_002, 3, 50_001))
	b[99_999].Page = 64
	wantNoMerge(t, a, b, api.ErrPlace)
	a[99_999].Since = 0
	wantNoMerge(t, a, b, api.ErrField)
}

func TestMergeRefusesWrongElements(t *testing.T) {
	right := dirty(3, 9, 1, 4)
	wrong := func(bad []api.Dirty, e api.Errno) {
		t.Helper()
		wantNoMerge(t, bad, nil, e)
		wantNoMerge(t, nil, bad, e)
		wantNoMerge(t, bad, right, e)
		wantNoMerge(t, right, bad, e)
		wantNoMerge(t, slices.Concat(right, bad), right, e)
		wantNoMerge(t, right, slices.Concat(bad, right), e)
		wantNoMerge(t, slices.Concat(bad, bad), bad, e)
	}
	for _, n := range wrongPages {
		wrong(dirty(n, 5), api.ErrPlace)
		for _, since := range wrongRecords {
			wrong(dirty(n, since), api.ErrPlace)
		}
	}
	for _, since := range wrongRecords {
		wrong(dirty(0, since), api.ErrField)
		wrong(dirty(3, since), api.ErrField)
		wrong(dirty(63, since), api.ErrField)
	}
}

// TestMergeTellsTheFirstFault: not the one that would come first by its kind, nor that of b ahead of a's.
func TestMergeTellsTheFirstFault(t *testing.T) {
	wantNoMerge(t, dirty(3, 0, 64, 1), nil, api.ErrField)
	wantNoMerge(t, dirty(64, 1, 3, 0), nil, api.ErrPlace)
	wantNoMerge(t, nil, dirty(3, 0, 64, 1), api.ErrField)
	wantNoMerge(t, nil, dirty(64, 1, 3, 0), api.ErrPlace)
	wantNoMerge(t, dirty(64, 1), dirty(3, 0), api.ErrPlace)
	wantNoMerge(t, dirty(1, 1, 2, 2, 3, 0), dirty(64, 1), api.ErrField)
	wantNoMerge(t, dirty(1, 1, 2, 2, -1, 0), dirty(3, 0), api.ErrPlace)
}

// modelFault: of all elements, a's ahead of b's.
func modelFault(all []api.Dirty) api.Errno {
	k := slices.IndexFunc(all, func(d api.Dirty) bool {
		return !(0 <= d.Page && d.Page <= 63 && 1 <= d.Since && d.Since <= 1<<31-1)
	})
	switch {
	case k < 0:
		return api.OK
	case 0 <= all[k].Page && all[k].Page <= 63:
		return api.ErrField
	}
	return api.ErrPlace
}

// modelMerge: sorted by page and then by Since, the first of each page stays.
func modelMerge(a, b []api.Dirty) ([]api.Dirty, api.Errno) {
	all := slices.Concat(a, b)
	if e := modelFault(all); e != api.OK {
		return nil, e
	}
	slices.SortFunc(all, func(x, y api.Dirty) int {
		return cmp.Or(cmp.Compare(x.Page, y.Page), cmp.Compare(x.Since, y.Since))
	})
	return slices.CompactFunc(all, func(x, y api.Dirty) bool { return x.Page == y.Page }), api.OK
}

// asModel: what Merge answers, which must be what the model does.
func asModel(t *testing.T, a, b []api.Dirty) ([]api.Dirty, api.Errno) {
	t.Helper()
	got, e := points.Merge(a, b)
	want, wanted := modelMerge(a, b)
	if !slices.Equal(got, want) || e != wanted {
		t.Fatalf("P16.5: Merge(%v, %v) = %v, %d, want %v, %d", a, b, got, e, want, wanted)
	}
	return got, e
}

// TestMergeOfAllShortLists: every two lists of three elements together, at and around the bounds.
func TestMergeOfAllShortLists(t *testing.T) {
	var each []api.Dirty
	for _, n := range []int{-1, 0, 1, 63, 64} {
		for _, since := range []int{0, 1, 2, 1<<31 - 1, 1 << 31} {
			each = append(each, api.Dirty{Page: n, Since: since})
		}
	}
	counts := map[api.Errno]int{}
	for _, x := range each {
		for _, y := range each {
			for _, z := range each {
				all := []api.Dirty{x, y, z}
				for cut := range 4 {
					_, e := asModel(t, all[:cut], all[cut:])
					counts[e]++
				}
			}
		}
	}
	if counts[api.OK] != 4*9*9*9 || counts[api.ErrPlace] == 0 || counts[api.ErrField] == 0 {
		t.Errorf("the lists are not as they should be: %v", counts)
	}
}

// drawList: at most so many elements, of so many pages, without a fault.
func drawList(r *rand.Rand, most, pages int) []api.Dirty {
	var out []api.Dirty
	for range r.IntN(most + 1) {
		since := 1 + r.IntN(20)
		if r.IntN(4) == 0 {
			since = 1<<31 - since
		}
		out = append(out, api.Dirty{Page: r.IntN(pages), Since: since})
	}
	return out
}

// lesser: of two lists' least Since; an empty one has none.
func lesser(a, b []api.Dirty) int {
	x, y := points.From(api.Points{Dirty: a}), points.From(api.Points{Dirty: b})
	if x == 0 || y == 0 {
		return x + y
	}
	return min(x, y)
}

func TestMergingOfDrawnLists(t *testing.T) {
	r := rand.New(rand.NewPCG(16, 7))
	merge := func(a, b []api.Dirty) []api.Dirty {
		t.Helper()
		out, e := asModel(t, a, b)
		if e != api.OK {
			t.Fatalf("P16.5: Merge(%v, %v) = %d", a, b, e)
		}
		return out
	}
	same := func(what string, x, y []api.Dirty) {
		t.Helper()
		if !slices.Equal(x, y) {
			t.Fatalf("P16.7: %s: %v and %v", what, x, y)
		}
	}
	for range 5000 {
		most, pages := 1+r.IntN(40), 1+r.IntN(64)
		a, b, c := drawList(r, most, pages), drawList(r, most, pages), drawList(r, most, pages)
		ab := merge(a, b)
		same("Merge(a, b) and Merge(b, a)", ab, merge(b, a))
		same("Merge(a, Merge(b, c)) and Merge(Merge(a, b), c)", merge(a, merge(b, c)), merge(ab, c))
		one := merge(a, nil)
		same("Merge(a, a) and Merge(a, nothing)", merge(a, a), one)
		same("Merge(nothing, a) and Merge(a, nothing)", merge(nil, a), one)
		same("merged again", merge(one, one), one)
		same("merged again with nothing", merge(ab, nil), ab)
		same("merged again with a part of it", merge(ab, a), ab)
		if least := points.From(api.Points{Dirty: ab}); least != lesser(a, b) {
			t.Fatalf("P16.7: the least Since of Merge(%v, %v) is %d, want %d", a, b, least, lesser(a, b))
		}
	}
}
