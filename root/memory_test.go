package root_test

import (
	"slices"
	"testing"

	"dioptra/api"
	"dioptra/root"
)

// answers are what the calls say of the same 64 bits.
type answers struct {
	root  api.Bits
	flags api.Flags
	whole uint64
	is    bool
}

// TestP7_2NothingHandedInChanges, and nothing is kept: the same is answered again, whatever was asked before.
func TestP7_2NothingHandedInChanges(t *testing.T) {
	list := all()
	before := slices.Clone(list)
	ask := func(b *api.Bits) (got answers) {
		got.root, got.flags = root.Sqrt(*b)
		got.whole, got.is = root.Whole(uint64(*b))
		return got
	}
	var first []answers
	for i := range list {
		first = append(first, ask(&list[i]))
	}
	for i := range list {
		last := len(list) - 1 - i
		if again := ask(&list[last]); again != first[last] {
			t.Errorf("%x: %v, and then %v", list[last], first[last], again)
		}
	}
	if !slices.Equal(list, before) {
		t.Error("what was handed in has changed")
	}
}
