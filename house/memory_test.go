package house_test

import (
	"slices"
	"testing"

	"dioptra/api"
	"dioptra/house"
)

const mark = api.Bits(0xdeadbeefdeadbeef)

// roomy is a copy of x with marks in the room behind its end.
func roomy(x []api.Bits) []api.Bits {
	return append(slices.Clone(x), mark, mark, mark)[:len(x)]
}

// whole is a copy of x, with the room behind its end.
func whole(x []api.Bits) []api.Bits {
	return slices.Clone(x[:cap(x)])
}

// spoil writes over a list and the room behind its end.
func spoil(x []api.Bits) {
	x = x[:cap(x)]
	for i := range x {
		x[i] = mark
	}
}

// lists are vectors of several lengths: such as have a mirror, such as have none, and such as come out as they are.
func lists() [][]api.Bits {
	d := dice(1330)
	l := [][]api.Bits{nil, {}, {api.One}, {api.NegZero}, {api.One, api.Zero}, {api.One, api.NegZero, api.NegZero}, {three, four}, {api.Zero, minus(four)}, {greatest, greatest}, {three, api.Inf}, {api.NaN, api.One}, make([]api.Bits, 64), ones(64), ones(65)}
	for _, n := range []int{1, 2, 3, 6, 7, 64, 65} {
		l = append(l, list(n, d.near(-3, 6)), list(n, d.out(finites())), list(n, d.out(all())))
	}
	return l
}

func TestP13_1NothingHandedInChanges(t *testing.T) {
	for _, from := range lists() {
		x := roomy(from)
		before := whole(x)
		v, tau, beta, e := house.Make(x)
		if !slices.Equal(whole(x), before) {
			t.Fatalf("%s became %s", show(before), show(whole(x)))
		}
		if again, tau2, beta2, f := house.Make(x); !slices.Equal(again, v) || tau2 != tau || beta2 != beta || f != e {
			t.Errorf("Make(%s): %s, %x, %x, %v, and then %s, %x, %x, %v", show(x), show(v), tau, beta, e, show(again), tau2, beta2, f)
		}
	}
}

func TestP13_1NewMemory(t *testing.T) {
	for _, from := range lists() {
		x := roomy(from)
		before := whole(x)
		first, _, _, _ := house.Make(x)
		second, _, _, _ := house.Make(x)
		should := slices.Clone(second)
		spoil(first)
		if !slices.Equal(whole(x), before) || !slices.Equal(second, should) {
			t.Fatalf("Make(%s): an answer shares memory", show(before))
		}
		spoil(x)
		if !slices.Equal(second, should) {
			t.Errorf("Make(%s): what is answered has changed with it", show(before))
		}
		if third, _, _, _ := house.Make(roomy(from)); !slices.Equal(third, should) {
			t.Errorf("Make(%s): a later answer has changed with an earlier one", show(before))
		}
	}
}

// task is one call of Apply.
type task struct {
	m    api.Matrix
	i, k int
	v    []api.Bits
	tau  api.Bits
}

// roomy is a copy of a task, with marks in the room behind its lists' ends.
func (a task) roomy() task {
	a.m.Data, a.v = roomy(a.m.Data), roomy(a.v)
	return a
}

// whole is a copy of a task's lists, with the room behind their ends.
func (a task) whole() []api.Bits {
	return append(whole(a.m.Data), whole(a.v)...)
}

func (a task) apply() (api.Matrix, api.Errno) {
	return house.Apply(a.m, a.i, a.k, a.v, a.tau)
}

// tasks are calls that change much, such as change nothing, and such as are wrong.
func tasks() []task {
	d := dice(1331)
	var l []task
	for _, m := range []api.Matrix{{}, of(0, 3), of(3, 0), of(2, 2, ones(3)...), of(2, 2, ones(5)...), of(7, 1, ones(7)...), of(1, 1, three), picked(1, 6, d.near(-3, 6)), picked(6, 1, d.near(-3, 6)), picked(2, 3, d.out(all())), picked(6, 6, d.near(-3, 6)), picked(6, 6, d.out(all()))} {
		for _, p := range [][2]int{{0, 0}, {1, 0}, {0, 1}, {2, 3}, {6, 6}, {-1, 0}, {0, -1}, {7, 7}} {
			for _, v := range [][]api.Bits{nil, {api.One}, {api.One, half}, list(6, d.near(-3, 6)), list(7, d.near(-3, 6)), list(3, d.out(all())), make([]api.Bits, 4)} {
				for _, tau := range []api.Bits{api.Zero, api.One, two, 0x3ff999999999999a, api.NaN} {
					l = append(l, task{m, p[0], p[1], v, tau})
				}
			}
		}
	}
	return l
}

func TestP13_2NothingHandedInChanges(t *testing.T) {
	for _, from := range tasks() {
		a := from.roomy()
		before := a.whole()
		got, e := a.apply()
		if !slices.Equal(a.whole(), before) {
			t.Fatalf("%x became %x", from, a)
		}
		if again, f := a.apply(); !same(got, again) || e != f {
			t.Errorf("Apply(%x): %x, %v, and then %x, %v", from, got, e, again, f)
		}
	}
}

func TestP13_2NewMemory(t *testing.T) {
	for _, from := range tasks() {
		a := from.roomy()
		before := a.whole()
		first, _ := a.apply()
		second, _ := a.apply()
		should := slices.Clone(second.Data)
		spoil(first.Data)
		if !slices.Equal(a.whole(), before) || !slices.Equal(second.Data, should) {
			t.Fatalf("Apply(%x): an answer shares memory", from)
		}
		spoil(a.m.Data)
		spoil(a.v)
		if !slices.Equal(second.Data, should) {
			t.Errorf("Apply(%x): what is answered has changed with it", from)
		}
		if third, _ := from.roomy().apply(); !slices.Equal(third.Data, should) {
			t.Errorf("Apply(%x): a later answer has changed with an earlier one", from)
		}
	}
}

// TestP13_2OneListTwice: v may be a piece of the matrix's own memory, and is read as if it were not.
func TestP13_2OneListTwice(t *testing.T) {
	d := dice(1332)
	for _, pick := range []func() api.Bits{d.near(-3, 6), d.out(all())} {
		m := picked(6, 6, pick)
		before := slices.Clone(m.Data)
		for n := range 7 {
			for i := range 7 - n {
				want, e := house.Apply(m, i, 0, slices.Clone(m.Data[6*i:6*i+n]), three)
				if got, f := house.Apply(m, i, 0, m.Data[6*i:6*i+n], three); !same(got, want) || e != f || !slices.Equal(m.Data, before) {
					t.Errorf("from %d on, %d numbers: %x, %v; wanted %x, %v", i, n, got, f, want, e)
				}
			}
		}
	}
}
