package points

import (
	"slices"
	"testing"

	"quota/api"
)

// TestTidyKnowsNothingOfTheListAhead: one map serves several lists, and each is told by itself.
func TestTidyKnowsNothingOfTheListAhead(t *testing.T) {
	a := []api.Dirty{{Page: 3, Since: 2}, {Page: 1, Since: 4}, {Page: 3, Since: 5}}
	b := []api.Dirty{{Page: 63, Since: 1}, {Page: 3, Since: 9}}
	g := make(gathering)
	for _, c := range []struct{ list, want []api.Dirty }{
		{a, []api.Dirty{{Page: 1, Since: 4}, {Page: 3, Since: 2}}},
		{b, []api.Dirty{{Page: 3, Since: 9}, {Page: 63, Since: 1}}},
		{nil, nil},
		{a, []api.Dirty{{Page: 1, Since: 4}, {Page: 3, Since: 2}}},
	} {
		if got := g.tidy(c.list); !slices.Equal(got, c.want) {
			t.Errorf("tidy(%v) = %v, want %v", c.list, got, c.want)
		}
	}
}
