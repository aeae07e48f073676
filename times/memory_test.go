package times_test

import (
	"slices"
	"testing"

	"dioptra/times"
)

// TestP6_1NothingHandedInChanges, and nothing is kept: the same is answered again, whatever was asked before.
func TestP6_1NothingHandedInChanges(t *testing.T) {
	list := grid(all())
	before := slices.Clone(list)
	type answers struct{ product, quotient, square line }
	var first []answers
	ask := func(i int) (got answers) {
		p := &list[i]
		got.product.want, got.product.flags = times.Mul(p.a, p.b)
		got.quotient.want, got.quotient.flags = times.Div(p.a, p.b)
		got.square.want, got.square.flags = times.Square(p.a)
		return got
	}
	for i := range list {
		first = append(first, ask(i))
	}
	for i := range list {
		last := len(list) - 1 - i
		if again := ask(last); again != first[last] {
			t.Errorf("%x: %v, and then %v", list[last], first[last], again)
		}
	}
	if !slices.Equal(list, before) {
		t.Error("what was handed in has changed")
	}
}
