package givens_test

import (
	"fmt"
	"math"
	"testing"

	"dioptra/api"
	"dioptra/givens"
)

// wantsNoTurn looks after numbers of which one at least is not finite.
func wantsNoTurn(t *testing.T, f, g api.Bits) {
	t.Helper()
	if c, s, r, e := givens.Turn(f, g); c != 0 || s != 0 || r != 0 || e != api.ErrFinite {
		t.Errorf("Turn(%x, %x): %x, %x, %x, %v", f, g, c, s, r, e)
	}
}

// TestP12_1NotFinite: either alone, with each finite number, a nought too, and both.
func TestP12_1NotFinite(t *testing.T) {
	for _, none := range notFinite() {
		for _, b := range all() {
			wantsNoTurn(t, none, b)
			wantsNoTurn(t, b, none)
		}
	}
}

// TestP12_1NoughtBehind: with g a nought of either sign, whatever f, which is handed on as it is, a nought's sign too.
func TestP12_1NoughtBehind(t *testing.T) {
	for _, g := range noughts() {
		for _, f := range finites() {
			wantsTurn(t, f, g, api.One, api.Zero, f)
		}
	}
}

func TestP12_1NoughtInFront(t *testing.T) {
	for _, f := range noughts() {
		for _, g := range numbers() {
			wantsTurn(t, f, g, api.Zero, api.One, g)
		}
	}
}

// call is Rows or Cols.
type call func(m api.Matrix, i, k int, c, s api.Bits) (api.Matrix, api.Errno)

// calls are both, by name.
func calls() map[string]call {
	return map[string]call{"Rows": givens.Rows, "Cols": givens.Cols}
}

// TestP12_2FormFirst: what is not right has no rows and no columns, whichever are asked for.
func TestP12_2FormFirst(t *testing.T) {
	for _, m := range wrong() {
		for name, ask := range calls() {
			what := fmt.Sprintf("%s of %d rows, %d columns, %d numbers", name, m.Rows, m.Cols, len(m.Data))
			for _, p := range [][2]int{{0, 1}, {1, 0}, {0, 0}, {-1, 0}, {0, -1}, {m.Rows, 0}, {0, m.Cols}, {m.Rows - 1, 0}, {0, m.Cols - 1}, {math.MinInt, math.MaxInt}} {
				got, e := ask(m, p[0], p[1], api.One, api.Zero)
				wantsNone(t, what, got, e, api.ErrForm)
				got, e = ask(m, p[0], p[1], api.NaN, api.Inf)
				wantsNone(t, what, got, e, api.ErrForm)
			}
		}
	}
}

// TestP12_2Which goes over all sizes, and all places of two lines from -1 to one behind the last, and far out.
func TestP12_2Which(t *testing.T) {
	d := dice(1201)
	for _, s := range sizes() {
		m := picked(s[0], s[1], d.near(-3, 6))
		lines := map[string]int{"Rows": m.Rows, "Cols": m.Cols}
		for name, ask := range calls() {
			n := lines[name]
			places := append(beyond(), n)
			for i := range n {
				places = append(places, i)
			}
			for _, i := range places {
				for _, k := range places {
					what := fmt.Sprintf("%s %d and %d of sizes %v", name, i, k, s)
					got, e := ask(m, i, k, api.One, api.Zero)
					if i >= 0 && i < n && k >= 0 && k < n && i != k {
						wants(t, what, got, e, m) // 1 times each and 0 times the other: as it was
					} else {
						wantsNone(t, what, got, e, api.ErrNone)
					}
				}
			}
		}
	}
}

// TestP12_2OtherWay: rows are not columns: a place that is one of the others alone is none.
func TestP12_2OtherWay(t *testing.T) {
	for _, s := range [][2]int{{1, 6}, {0, 6}, {2, 6}, {5, 6}} {
		m := of(s[0], s[1], ones(s[0]*s[1])...)
		got, e := givens.Rows(m, 0, 5, api.One, api.Zero)
		wantsNone(t, "a column's place", got, e, api.ErrNone)
		got, e = givens.Cols(sidewise(m), 0, 5, api.One, api.Zero)
		wantsNone(t, "a row's place", got, e, api.ErrNone)
		got, e = givens.Cols(m, 0, 5, api.One, api.Zero)
		wants(t, "columns", got, e, m)
		got, e = givens.Rows(sidewise(m), 5, 0, api.One, api.Zero)
		wants(t, "rows", got, e, sidewise(m))
	}
}

// TestP12_2NoNumbers: a matrix of rows without numbers has rows to turn, and no columns; and the other way round.
func TestP12_2NoNumbers(t *testing.T) {
	for n := range api.MaxDim + 1 {
		rows, e := givens.Rows(of(n, 0), 0, n-1, three, four)
		cols, f := givens.Cols(of(0, n), n-1, 0, three, four)
		if n < 2 {
			wantsNone(t, "rows", rows, e, api.ErrNone)
			wantsNone(t, "columns", cols, f, api.ErrNone)
		} else {
			wants(t, "rows", rows, e, of(n, 0))
			wants(t, "columns", cols, f, of(0, n))
		}
		rows, e = givens.Rows(of(0, n), 0, 1, three, four)
		wantsNone(t, "no rows", rows, e, api.ErrNone)
		cols, f = givens.Cols(of(n, 0), 0, 1, three, four)
		wantsNone(t, "no columns", cols, f, api.ErrNone)
	}
}
