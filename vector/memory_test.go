package vector_test

import (
	"slices"
	"testing"

	"dioptra/api"
	"dioptra/vector"
)

const mark = api.Bits(0xdeadbeefdeadbeef)

// roomy is a copy of x with marks in the room behind its end.
func roomy(x []api.Bits) []api.Bits {
	return append(slices.Clone(x), mark, mark, mark)[:len(x)]
}

// answers are what the calls say of a, x and y.
type answers struct {
	dot, biggest, norm api.Bits
	finite             bool
	errs               [4]api.Errno
	sums, products     []api.Bits
}

func ask(a api.Bits, x, y []api.Bits) (got answers) {
	got.dot, got.errs[0] = vector.Dot(x, y)
	got.sums, got.errs[1] = vector.Axpy(a, x, y)
	got.products, got.errs[2] = vector.Times(a, x)
	got.norm, got.errs[3] = vector.Norm(x)
	got.biggest, got.finite = vector.Biggest(x), vector.Finite(x)
	return got
}

func (a answers) same(b answers) bool {
	return a.dot == b.dot && a.biggest == b.biggest && a.norm == b.norm && a.finite == b.finite && a.errs == b.errs &&
		slices.Equal(a.sums, b.sums) && slices.Equal(a.products, b.products)
}

// factors are numbers of which some would let a list be handed on as it is.
func factors() []api.Bits {
	return []api.Bits{api.Zero, api.NegZero, api.One, minus(api.One), three, api.Inf, api.NaN}
}

// lists are vectors of all lengths, some too long ones, and such as come out as they are.
func lists() [][]api.Bits {
	list := [][]api.Bits{nil, {}, {api.Zero}, {api.NegZero, api.NegZero}, {three, four}, ones(64), ones(65), ones(66), make([]api.Bits, 64)}
	d := dice(101)
	for _, n := range []int{1, 2, 5, 63, 64, 65} {
		list = append(list, d.finite(n), d.mixed(n, all()), d.tiny(n))
	}
	return list
}

func TestP9_1NothingHandedInChanges(t *testing.T) {
	for _, from := range lists() {
		for _, other := range lists() {
			x, y := roomy(from), roomy(other)
			beforeX, beforeY := slices.Clone(x[:cap(x)]), slices.Clone(y[:cap(y)])
			for _, a := range factors() {
				first := ask(a, x, y)
				if !slices.Equal(x[:cap(x)], beforeX) || !slices.Equal(y[:cap(y)], beforeY) {
					t.Fatalf("%x and %x became %x and %x", beforeX, beforeY, x[:cap(x)], y[:cap(y)])
				}
				if again := ask(a, x, y); !again.same(first) {
					t.Errorf("%v, and then %v", first, again)
				}
			}
		}
	}
}

// spoil writes over a list and the room behind its end.
func spoil(list []api.Bits) {
	list = list[:cap(list)]
	for i := range list {
		list[i] = mark
	}
}

// wantsApart looks after lists, made by one call each, of which none may share memory with another, or with x and y.
func wantsApart(t *testing.T, call func(x, y []api.Bits) []api.Bits, x, y []api.Bits) {
	t.Helper()
	beforeX, beforeY := slices.Clone(x[:cap(x)]), slices.Clone(y[:cap(y)])
	first, second := call(x, y), call(x, y)
	should := slices.Clone(second)
	spoil(first)
	if !slices.Equal(x[:cap(x)], beforeX) || !slices.Equal(y[:cap(y)], beforeY) {
		t.Fatalf("what is answered shares memory with %x or %x", beforeX, beforeY)
	}
	if !slices.Equal(second, should) {
		t.Errorf("two answers of %x and %x share memory", beforeX, beforeY)
	}
	spoil(x)
	spoil(y)
	if !slices.Equal(second, should) {
		t.Errorf("what is answered has changed with %x or %x", beforeX, beforeY)
	}
}

func TestP9_1NewMemory(t *testing.T) {
	for _, from := range lists() {
		for _, a := range factors() {
			axpy := func(x, y []api.Bits) []api.Bits {
				l, _ := vector.Axpy(a, x, y)
				return l
			}
			product := func(x, _ []api.Bits) []api.Bits {
				l, _ := vector.Times(a, x)
				return l
			}
			for _, call := range []func(x, y []api.Bits) []api.Bits{axpy, product} {
				wantsApart(t, call, roomy(from), roomy(from))
				wantsApart(t, call, roomy(from), roomy(make([]api.Bits, len(from))))
				wantsApart(t, call, roomy(make([]api.Bits, len(from))), roomy(from))
			}
		}
	}
}

// TestP9_1OneListTwice: a list that is handed in twice, or that overlaps the other one, is read as two lists are.
func TestP9_1OneListTwice(t *testing.T) {
	d := dice(102)
	for _, long := range [][]api.Bits{d.near(40, -3, 6), d.mixed(40, all())} {
		before := slices.Clone(long)
		for _, from := range []int{0, 1, 5, 20} {
			x, y := long[:20], long[from:from+20]
			apart := ask(three, slices.Clone(x), slices.Clone(y))
			if got := ask(three, x, y); !got.same(apart) {
				t.Errorf("%x and %x: %v; wanted %v", x, y, got, apart)
			}
		}
		if !slices.Equal(long, before) {
			t.Errorf("%x became %x", before, long)
		}
	}
}
