package compare_test

import (
	"slices"
	"testing"

	"dioptra/api"
	"dioptra/compare"
)

// answers are what the calls say of two numbers, and of the bits of the first as a whole number.
type answers struct {
	side                   int
	ordered, less, equal   bool
	abs, greater           api.Bits
	scaled, whole          api.Bits
	scaledFlags, wholeFlag api.Flags
	cut                    int64
	err                    api.Errno
	exp                    int
}

func ask(a, b *api.Bits) (got answers) {
	got.side, got.ordered = compare.Order(*a, *b)
	got.less, got.equal = compare.Less(*a, *b), compare.Equal(*a, *b)
	got.abs, got.greater = compare.Abs(*a), compare.Max(*a, *b)
	got.scaled, got.scaledFlags = compare.Scale(*a, int(*b))
	got.whole, got.wholeFlag = compare.Int(int64(*a))
	got.cut, got.err = compare.Trunc(*a)
	got.exp = compare.Exp(*a)
	return got
}

// TestP8_2NothingHandedInChanges, and nothing is kept: the same is answered again, whatever was asked before.
func TestP8_2NothingHandedInChanges(t *testing.T) {
	list := all()
	before := slices.Clone(list)
	other := func(i int) *api.Bits { return &list[(i*17+5)%len(list)] }
	var first []answers
	for i := range list {
		first = append(first, ask(&list[i], other(i)))
	}
	for i := range list {
		last := len(list) - 1 - i
		if again := ask(&list[last], other(last)); again != first[last] {
			t.Errorf("%x: %v, and then %v", list[last], first[last], again)
		}
	}
	if !slices.Equal(list, before) {
		t.Error("what was handed in has changed")
	}
}
