package exact_test

import (
	"fmt"
	"math"
	"math/big"
	"slices"
	"testing"

	"dioptra/api"
	"dioptra/exact"
)

func TestP3_1CheckOfRight(t *testing.T) {
	for i, g := range samples() {
		if e := exact.Check(g.rows()); e != api.OK {
			t.Errorf("sample %d, %v: %v", i, g, e)
		}
	}
}

// bare are rows without a number in them.
func bare() [][][]api.Whole {
	list := [][][]api.Whole{nil, {}}
	for n := range most {
		rows := make([][]api.Whole, n+1)
		list = append(list, slices.Clone(rows))
		rows[n] = []api.Whole{} // nil's like: the others beside it are nil
		list = append(list, rows)
	}
	return list
}

func TestP3_1CheckOfNothing(t *testing.T) {
	for i, rows := range bare() {
		if e := exact.Check(rows); e != api.OK {
			t.Errorf("bare %d: %v", i, e)
		}
	}
}

func TestP3_1CheckOfZeros(t *testing.T) {
	zeros := [][]api.Whole{{{}, {Limbs: []uint32{}}}, {{Limbs: make([]uint32, 0, 3)}, {}}}
	if e := exact.Check(zeros); e != api.OK {
		t.Errorf("%v", e)
	}
	wantsRank(t, "zeros", zeros, 0)
	got, e := exact.Det(zeros)
	wants(t, "zeros", got, e, new(big.Int))
}

// plain are n rows of m numbers.
func plain(n, m int) [][]api.Whole {
	rows := make([][]api.Whole, n)
	for r := range rows {
		rows[r] = make([]api.Whole, m)
		for c := range rows[r] {
			rows[r][c] = api.Whole{Limbs: []uint32{uint32(1 + r*m + c)}}
		}
	}
	return rows
}

// uneven are rows of which one is not as long as the first.
func uneven() [][][]api.Whole {
	var list [][][]api.Whole
	for n := 2; n <= most; n++ {
		for r := range n {
			shorter, longer, none := plain(n, 3), plain(n, 3), plain(n, 3)
			shorter[r] = shorter[r][:2]
			longer[r] = append(longer[r], api.Whole{})
			none[r] = nil
			alone := make([][]api.Whole, n)
			alone[r] = []api.Whole{{}}
			list = append(list, shorter, longer, none, alone)
		}
	}
	return list
}

// unshaped are rows that are too many, too long, or not alike.
func unshaped() [][][]api.Whole {
	late := plain(most, most)
	late[most-1] = append(late[most-1], api.Whole{})
	list := append(uneven(), late)
	for _, n := range []int{most + 1, 2 * most, 64, 1000} {
		list = append(list, plain(n, n), plain(n, most), plain(most, n), plain(n, 1), plain(1, n), plain(n, 0), make([][]api.Whole, n))
	}
	return list
}

// wrongNumbers are whole numbers that are not right.
func wrongNumbers() []api.Whole {
	d := dice(7)
	tooLong := wholeOf(d.long(api.MaxLimbs + 1))
	return []api.Whole{
		{Neg: true},
		{Neg: true, Limbs: []uint32{}},
		{Limbs: []uint32{0}},
		{Neg: true, Limbs: []uint32{0}},
		{Limbs: []uint32{5, 0}},
		{Neg: true, Limbs: []uint32{1, 2, 0}},
		{Limbs: make([]uint32, maxLimbs)},
		{Limbs: make([]uint32, maxLimbs+1)},
		{Limbs: append(wholeOf(d.long(maxLimbs)).Limbs, 0)},
		{Limbs: make([]uint32, api.MaxLimbs+1)},
		tooLong,
	}
}

// greatNumbers are right numbers that are too long for a row.
func greatNumbers() []api.Whole {
	d := dice(9)
	power := new(big.Int).Lsh(big.NewInt(1), maxBits) // the least of them
	list := []api.Whole{wholeOf(power), wholeOf(power.Neg(power))}
	for _, n := range []int{maxLimbs + 1, maxLimbs + 2, 100, api.MaxLimbs} {
		list = append(list, wholeOf(d.long(n)))
	}
	return list
}

// put are rows with a number put into each place in turn.
func put(n, m int, a api.Whole) [][][]api.Whole {
	var list [][][]api.Whole
	for r := range n {
		for c := range m {
			rows := plain(n, m)
			rows[r][c] = a
			list = append(list, rows)
		}
	}
	return list
}

// inEachPlace are rows of several sizes with one of the numbers in them.
func inEachPlace(numbers []api.Whole) [][][]api.Whole {
	var list [][][]api.Whole
	for _, a := range numbers {
		for _, size := range [][2]int{{1, 1}, {2, 2}, {1, most}, {most, 1}, {3, 5}, {most, most}} {
			list = append(list, put(size[0], size[1], a)...)
		}
	}
	return list
}

// fault is rows that may not be asked, and Check's error for them.
type fault struct {
	rows [][]api.Whole
	err  api.Errno
}

// wrongRows are rows with one fault, and with several.
func wrongRows() []fault {
	list := mixed()
	for _, rows := range unshaped() {
		list = append(list, fault{rows, api.ErrShape})
	}
	for _, rows := range inEachPlace(wrongNumbers()) {
		list = append(list, fault{rows, api.ErrForm})
	}
	for _, rows := range inEachPlace(greatNumbers()) {
		list = append(list, fault{rows, api.ErrRange})
	}
	return list
}

// mixed are rows with several faults, those that are named later in places that come first, and the other way round.
func mixed() []fault {
	bad, great := api.Whole{Limbs: []uint32{1, 0}}, greatNumbers()[0]
	var list []fault
	for _, size := range [][2]int{{2, 2}, {3, 2}, {2, 3}, {most, most}} {
		n, m := size[0], size[1]
		for _, ends := range [][2]int{{0, n - 1}, {n - 1, 0}} {
			rows := plain(n, m)
			rows[ends[0]][0], rows[ends[1]][m-1] = great, bad
			list = append(list, fault{rows, api.ErrForm})
			list = append(list, spoilt(rows)...)
			only := plain(n, m)
			only[ends[0]][0] = great
			list = append(list, spoilt(only)...)
			only = plain(n, m)
			only[ends[0]][0] = bad
			list = append(list, spoilt(only)...)
		}
	}
	return list
}

// spoilt are the rows in shapes that may not be: one row too long or too short, too many rows, too many columns.
func spoilt(rows [][]api.Whole) []fault {
	longer, shorter, many, wide := slices.Clone(rows), slices.Clone(rows), slices.Clone(rows), slices.Clone(rows)
	end := len(rows) - 1
	longer[end] = append(slices.Clone(longer[end]), api.Whole{})
	shorter[end] = nil
	for len(many) <= most {
		many = append(many, rows[0])
	}
	for r := range wide {
		for len(wide[r]) <= most {
			wide[r] = append(slices.Clone(wide[r]), rows[r][0])
		}
	}
	return []fault{{longer, api.ErrShape}, {shorter, api.ErrShape}, {many, api.ErrShape}, {wide, api.ErrShape}}
}

func TestP3_1CheckOfWrong(t *testing.T) {
	for i, w := range wrongRows() {
		if e := exact.Check(w.rows); e != w.err {
			t.Errorf("wrong %d: %v; wanted %v", i, e, w.err)
		}
	}
}

func TestP3_2WrongRows(t *testing.T) {
	lists := [][]int{nil, {0}, {0, 1}, {1, 0}, {-1}, {math.MinInt}, {math.MaxInt}, {0, 1, 2, 3, 4, 5, 6}}
	for i, w := range wrongRows() {
		got, e := exact.Det(w.rows)
		wantsError(t, fmt.Sprint("Det of wrong ", i), got, e, w.err)
		if k, e := exact.Rank(w.rows); k != 0 || e != w.err {
			t.Errorf("Rank of wrong %d: %d, %v; wanted %v", i, k, e, w.err)
		}
		at, cols := lists[i%len(lists)], lists[i/len(lists)%len(lists)]
		got, e = exact.Minor(w.rows, at, cols)
		wantsError(t, fmt.Sprint("Minor of wrong ", i, " at ", at, cols), got, e, w.err)
	}
}

func TestP3_2DetOfUnlikeSizes(t *testing.T) {
	for i, g := range samples() {
		if len(g) != g.width() {
			got, e := exact.Det(g.rows())
			wantsError(t, fmt.Sprint("sample ", i), got, e, api.ErrShape)
		}
	}
	for i, rows := range bare() {
		got, e := exact.Det(rows)
		if len(rows) == 0 {
			wants(t, fmt.Sprint("bare ", i), got, e, big.NewInt(1))
		} else {
			wantsError(t, fmt.Sprint("bare ", i), got, e, api.ErrShape)
		}
	}
}

// wrongPlaces are lists of places of which one is none below n, or that do not rise.
func wrongPlaces(n int) [][]int {
	list := [][]int{{-1}, {n}, {n + 1}, {math.MinInt}, {math.MaxInt}, {0, 0}, {-1, 0}, {math.MaxInt, math.MinInt}, {1 << 32}, {-1 << 32}, {64}, {-64}}
	for k := 1; k <= n; k++ {
		rise := parts(n, k)[0]
		for i := range k {
			low, high := slices.Clone(rise), slices.Clone(rise)
			low[i], high[i] = -1, n
			list = append(list, low, high, slices.Insert(slices.Clone(rise), i, rise[i]))
		}
		list = append(list, append(slices.Clone(rise), n), append(slices.Clone(rise), math.MaxInt), append([]int{-1}, rise...), append([]int{math.MinInt}, rise...))
	}
	for i := 1; i < n; i++ {
		crossed := parts(n, n)[0]
		crossed[i-1], crossed[i] = crossed[i], crossed[i-1]
		list = append(list, crossed, []int{i, i}, []int{i, i - 1}, []int{i, 0})
	}
	return append(list, make([]int, 1000))
}

func TestP3_2MinorAtWrongPlaces(t *testing.T) {
	d := dice(11)
	for _, size := range [][2]int{{0, 0}, {1, 0}, {most, 0}, {1, 1}, {2, 3}, {3, 2}, {most, 4}, {4, most}, {most, most}} {
		n, m := size[0], size[1]
		rows := d.smalls(n, m, 9).rows()
		for _, at := range wrongPlaces(n) {
			for _, cols := range append(wrongPlaces(m), append(parts(m, min(len(at), m)), nil)...) { // right ones, too: as many, and not
				got, e := exact.Minor(rows, at, cols)
				wantsError(t, fmt.Sprint(n, " by ", m, " at ", at, cols), got, e, api.ErrForm)
			}
		}
		for _, cols := range wrongPlaces(m) {
			for _, at := range append(parts(n, min(len(cols), n)), nil) {
				got, e := exact.Minor(rows, at, cols)
				wantsError(t, fmt.Sprint(n, " by ", m, " at ", at, cols), got, e, api.ErrForm)
			}
		}
	}
}

func TestP3_2MinorOfUnlikeManyPlaces(t *testing.T) {
	d := dice(12)
	for _, size := range [][2]int{{1, 0}, {1, 1}, {2, 4}, {5, 3}, {most, most}} {
		rows := d.smalls(size[0], size[1], 9).rows()
		for k := range size[0] + 1 {
			for l := range size[1] + 1 {
				if k == l {
					continue
				}
				for _, at := range parts(size[0], k) {
					for _, cols := range parts(size[1], l) {
						got, e := exact.Minor(rows, at, cols)
						wantsError(t, fmt.Sprint(size, " at ", at, cols), got, e, api.ErrShape)
					}
				}
			}
		}
	}
}
