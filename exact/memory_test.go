package exact_test

import (
	"math/big"
	"slices"
	"testing"

	"dioptra/api"
	"dioptra/exact"
)

const mark = 0xdeadbeef

// roomy are the grid's rows, with marked room behind the end of each list.
func roomy(g grid) [][]api.Whole {
	marked := api.Whole{Neg: true, Limbs: []uint32{mark}}
	var rows [][]api.Whole
	for _, line := range g {
		var row []api.Whole
		for _, v := range line {
			a := wholeOf(v)
			n := len(a.Limbs)
			a.Limbs = append(a.Limbs, mark, mark, mark)[:n]
			row = append(row, a)
		}
		rows = append(rows, append(row, marked, marked)[:len(line)])
	}
	return append(rows, []api.Whole{marked}, nil)[:len(g)]
}

// roomyPlaces are places with marked room behind them.
func roomyPlaces(list []int) []int {
	return append(slices.Clone(list), mark, mark)[:len(list)]
}

// copied is all that the rows hold, and what lies in the room behind their ends.
func copied(rows [][]api.Whole) [][]api.Whole {
	all := slices.Clone(rows[:cap(rows)])
	for r, row := range all {
		all[r] = slices.Clone(row[:cap(row)])
		for c, a := range all[r] {
			all[r][c].Limbs = slices.Clone(a.Limbs[:cap(a.Limbs)])
		}
	}
	return all
}

// alike tells whether what rows hold is just what was copied.
func alike(rows, before [][]api.Whole) bool {
	return slices.EqualFunc(copied(rows), before, func(x, y []api.Whole) bool { return slices.EqualFunc(x, y, same) })
}

// calls does every call on the rows, with the first, and the last, places.
func calls(rows [][]api.Whole, at, cols []int) []api.Whole {
	exact.Check(rows)
	exact.Rank(rows)
	det, _ := exact.Det(rows)
	minor, _ := exact.Minor(rows, at, cols)
	none, _ := exact.Minor(rows, at[:0], cols[:0])
	return []api.Whole{det, minor, none}
}

// asked are grids whose memory is looked at; of a single number the determinant is that number itself.
func asked() []grid {
	d := dice(43)
	return []grid{
		of(), of([]int64{7}), of([]int64{-1 << 40}), of([]int64{1, 0}, []int64{0, 1}), of([]int64{1, 2}, []int64{2, 4}), of([]int64{1, 2, 3}, []int64{4, 5, 6}),
		d.longs(1, 1, maxLimbs), d.longs(3, 3, 4), d.longs(most, most, 3),
	}
}

func TestP3_2NothingHandedInChanges(t *testing.T) {
	for i, g := range asked() {
		rows := roomy(g)
		before := copied(rows)
		for k := range min(len(g), g.width()) + 1 {
			at, cols := roomyPlaces(parts(len(g), k)[0]), roomyPlaces(parts(g.width(), k)[0])
			both := [2][]int{slices.Clone(at[:cap(at)]), slices.Clone(cols[:cap(cols)])}
			calls(rows, at, cols)
			if !alike(rows, before) {
				t.Errorf("grid %d changed", i)
			}
			if !slices.Equal(both[0], at[:cap(at)]) || !slices.Equal(both[1], cols[:cap(cols)]) {
				t.Errorf("grid %d: places changed: %v, %v", i, at[:cap(at)], cols[:cap(cols)])
			}
		}
	}
}

func TestP3_2NothingWrongHandedInChanges(t *testing.T) {
	for i, w := range wrongRows() {
		before := copied(w.rows)
		calls(w.rows, []int{0}, []int{0})
		if !alike(w.rows, before) {
			t.Errorf("wrong %d changed", i)
		}
	}
}

// spoil changes all of a list, and the room behind its end.
func spoil(limbs []uint32) {
	room := limbs[:cap(limbs)]
	for i := range room {
		room[i]++
	}
}

func TestP3_2AnswersAreNewMemory(t *testing.T) {
	for i, g := range asked() {
		for k := range min(len(g), g.width()) + 1 {
			rows := roomy(g)
			before := copied(rows)
			answers := calls(rows, parts(len(g), k)[0], parts(g.width(), k)[0])
			again := calls(rows, parts(len(g), k)[0], parts(g.width(), k)[0])
			for _, a := range answers {
				spoil(a.Limbs)
			}
			if !alike(rows, before) {
				t.Errorf("grid %d hangs on its answers", i)
			}
			for _, row := range rows {
				for _, a := range row {
					spoil(a.Limbs)
				}
			}
			fresh := calls(roomy(g), parts(len(g), k)[0], parts(g.width(), k)[0])
			for n := range again {
				if !same(again[n], fresh[n]) {
					t.Errorf("grid %d: answer %d became %s; it was %s", i, n, show(again[n]), show(fresh[n]))
				}
			}
		}
	}
}

// TestP3_2OneAnswer: the same rows are answered alike, however often they are asked.
func TestP3_2OneAnswer(t *testing.T) {
	d := dice(47)
	g := d.smalls(most, 4, 3).times(d.smalls(4, most, 3))
	for range 50 {
		wantsRank(t, "rows that hang on each other", g.rows(), g.rank())
		got, e := exact.Det(g.rows())
		wants(t, "rows that hang on each other", got, e, new(big.Int))
	}
}
