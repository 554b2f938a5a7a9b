package engine_test

import (
	"reflect"
	"slices"
	"testing"

	"quota/api"
	"quota/engine"
)

// scribble writes over all of a list's memory, spare room too.
func scribble[T any](list []T, with T) {
	list = list[:cap(list)]
	for k := range list {
		list[k] = with
	}
}

// TestListsAreNewMemory: of five elements each, so that a list that was grown has spare room.
func TestListsAreNewMemory(t *testing.T) {
	w := made(t, shaped(3, 60, 2))
	for id := 1; id <= 5; id++ {
		w.run(create(id, id%2+1, -9, 9, int64(id)), begin())
	}
	for id := 1; id <= 5; id++ {
		w.run(add(3, id, 1), add(1, id, -1))
	}
	before := w.tells()
	for range 2 {
		counters, _ := w.Counters()
		live, _ := w.Live()
		held, _ := w.Holdings(3)
		counters2, _ := w.Counters()
		live2, _ := w.Live()
		held2, _ := w.Holdings(1)
		want, want2, want3 := slices.Clone(counters2), slices.Clone(live2), slices.Clone(held2)
		scribble(counters, api.Counter{ID: -7})
		scribble(live, -7)
		scribble(held, api.Holding{Tx: -7})
		if !slices.Equal(counters2, want) || !slices.Equal(live2, want2) || !slices.Equal(held2, want3) {
			t.Error("rule 2: two lists share memory")
		}
		if after := w.tells(); after != before {
			t.Errorf("rule 2: lists that were written over have made %s of %s", after, before)
		}
	}
}

// TestFaultsAreNew: who changes one changes no other.
func TestFaultsAreNew(t *testing.T) {
	w := made(t, small)
	fault := func() *api.Fault { return w.Commit(1).(*api.Fault) }
	a, b := fault(), fault()
	*a = api.Fault{Call: "x", At: -1, Err: api.ErrOther}
	if c := fault(); *b != (api.Fault{Call: "Commit", Err: api.ErrTx}) || *c != *b {
		t.Errorf("rule 1: two answers are one fault: %v, %v", b, c)
	}
}

// TestFace: what the engine embeds adds nothing to what may be called, or changed, from outside.
func TestFace(t *testing.T) {
	want := []string{"Abort", "Add", "Begin", "Checkpoint", "Commit", "Counters", "Create", "Evict", "Flush", "Free", "Holdings", "Live", "Read", "Sum"}
	var got []string
	for face := reflect.TypeFor[*engine.Engine](); len(got) < face.NumMethod(); {
		got = append(got, face.Method(len(got)).Name)
	}
	if !slices.Equal(got, want) {
		t.Errorf("The calls: an engine has %v, want %v", got, want)
	}
	for _, f := range reflect.VisibleFields(reflect.TypeFor[engine.Engine]()) {
		if f.IsExported() {
			t.Errorf("The calls: an engine gives out its field %s", f.Name)
		}
	}
}
