package exact_test

import (
	"fmt"
	"math/big"
	"testing"

	"dioptra/api"
	"dioptra/exact"
)

func TestP3_2Det(t *testing.T) {
	for i, g := range squares() {
		got, e := exact.Det(g.rows())
		wants(t, fmt.Sprint("square ", i, ", ", g), got, e, g.det())
	}
}

func TestP3_2DetOfKnown(t *testing.T) {
	for _, c := range []struct {
		g    grid
		want int64
		rank int
	}{
		{of(), 1, 0},
		{of([]int64{5}), 5, 1},
		{of([]int64{-5}), -5, 1},
		{of([]int64{0}), 0, 0},
		{of([]int64{1, 2}, []int64{3, 4}), -2, 2},
		{of([]int64{1, 2}, []int64{2, 4}), 0, 1},
		{of([]int64{0, 1}, []int64{1, 0}), -1, 2},
		{of([]int64{0, 2, 0}, []int64{0, 0, 3}, []int64{5, 0, 0}), 30, 3},
		{of([]int64{1, 2, 3}, []int64{4, 5, 6}, []int64{7, 8, 9}), 0, 2},
		{of([]int64{1, 2, 3}, []int64{4, 5, 6}, []int64{7, 8, 10}), -3, 3},
		{of([]int64{1, 1, 1, 1}, []int64{1, 2, 4, 8}, []int64{1, 3, 9, 27}, []int64{1, 4, 16, 64}), 12, 4},
	} {
		got, e := exact.Det(c.g.rows())
		wants(t, fmt.Sprint(c.g), got, e, big.NewInt(c.want))
		wantsRank(t, fmt.Sprint(c.g), c.g.rows(), c.rank)
	}
}

// TestP3_2LongestDet: 160 times the sixth power of 2^2560 - 1 has 481 limbs, and no determinant has more bits.
func TestP3_2LongestDet(t *testing.T) {
	g := upright().scaled(greatest())
	want := new(big.Int).Mul(upright().det(), new(big.Int).Exp(greatest(), big.NewInt(most), nil))
	got, e := exact.Det(g.rows())
	wants(t, "the longest", got, e, want)
	if len(got.Limbs) != most*maxLimbs+1 || want.BitLen() != most*maxBits+8 {
		t.Errorf("%d limbs, %d bits", len(got.Limbs), want.BitLen())
	}
	got, e = exact.Minor(g.rows(), parts(most, most)[0], parts(most, most)[0])
	wants(t, "the longest minor", got, e, want)
	wantsRank(t, "the longest", g.rows(), most)
}

func TestP3_2MinorOfNone(t *testing.T) {
	for i, g := range samples() {
		got, e := exact.Minor(g.rows(), nil, []int{})
		wants(t, fmt.Sprint("sample ", i), got, e, big.NewInt(1))
		got, e = exact.Minor(g.rows(), []int{}, nil)
		wants(t, fmt.Sprint("sample ", i), got, e, big.NewInt(1))
	}
	for i, rows := range bare() {
		got, e := exact.Minor(rows, nil, nil)
		wants(t, fmt.Sprint("bare ", i), got, e, big.NewInt(1))
	}
}

// eachMinor does something with all places of all minors of g.
func eachMinor(g grid, do func(at, cols []int)) {
	for k := range min(len(g), g.width()) + 1 {
		for _, at := range parts(len(g), k) {
			for _, cols := range parts(g.width(), k) {
				do(at, cols)
			}
		}
	}
}

// few are grids whose minors are all asked for.
func few() []grid {
	d := dice(3)
	return append(named()[:12],
		d.smalls(2, most, 9), d.smalls(most, 2, 9), d.smalls(4, 4, 1), d.smalls(5, 4, 3), d.longs(3, 4, 5), d.longs(4, 3, maxLimbs),
		d.smalls(most, most, 1), d.smalls(most, most, 100), d.longs(most, most, 2),
	)
}

func TestP3_2Minor(t *testing.T) {
	for i, g := range few() {
		rows := g.rows()
		eachMinor(g, func(at, cols []int) {
			got, e := exact.Minor(rows, at, cols)
			wants(t, fmt.Sprint("grid ", i, " at ", at, cols), got, e, g.part(at, cols).det())
		})
	}
}

func TestP3_2MinorOfAllIsDet(t *testing.T) {
	for i, g := range squares() {
		places := parts(len(g), len(g))[0]
		got, e := exact.Minor(g.rows(), places, places)
		wants(t, fmt.Sprint("square ", i), got, e, g.det())
	}
}

func TestP3_2Rank(t *testing.T) {
	for i, g := range samples() {
		wantsRank(t, fmt.Sprint("sample ", i, ", ", g), g.rows(), g.rank())
	}
	for i, rows := range bare() {
		wantsRank(t, fmt.Sprint("bare ", i), rows, 0)
	}
}

// TestP3_2RankOfSmall asks all grids of a few sizes whose numbers are 0 or 1, and many greater ones.
func TestP3_2RankOfSmall(t *testing.T) {
	for _, size := range [][2]int{{2, 2}, {2, 3}, {3, 3}, {4, 2}, {3, 4}} {
		n, m := size[0], size[1]
		for bits := range 1 << (n * m) {
			g := make2(n, m, func(r, c int) *big.Int { return big.NewInt(int64(bits >> (r*m + c) & 1)) })
			wantsRank(t, fmt.Sprint(g), g.rows(), g.rank())
		}
	}
	d := dice(17)
	for range 600 {
		n, m := 1+int(d.roll()%most), 1+int(d.roll()%most)
		k := 1 + int(d.roll()%most)
		g := d.smalls(n, k, 1).times(d.smalls(k, m, 1))
		wantsRank(t, fmt.Sprint(g), g.rows(), g.rank())
	}
}

// TestP3_2RankIsTheGreatestMinors holds the rank against the word: the greatest k for which a minor is not 0.
func TestP3_2RankIsTheGreatestMinors(t *testing.T) {
	list := append(few(), named()[12:]...)
	d := dice(23)
	for k := 1; k < most; k++ {
		list = append(list, d.smalls(5, k, 2).times(d.smalls(k, most, 2)))
	}
	for i, g := range list {
		rows, greatest := g.rows(), 0
		eachMinor(g, func(at, cols []int) {
			if m, e := exact.Minor(rows, at, cols); e != api.OK {
				t.Errorf("grid %d at %v %v: %v", i, at, cols, e)
			} else if len(m.Limbs) > 0 {
				greatest = max(greatest, len(at))
			}
		})
		wantsRank(t, fmt.Sprint("grid ", i, ", ", g), rows, greatest)
	}
}

// TestP3_2OneNumber: a number alone has the rank 1 wherever it stands.
func TestP3_2OneNumber(t *testing.T) {
	for n := 1; n <= most; n++ {
		for m := 1; m <= most; m++ {
			for place := range n * m {
				g := make2(n, m, func(r, c int) *big.Int {
					if r*m+c == place {
						return big.NewInt(-1)
					}
					return new(big.Int)
				})
				wantsRank(t, fmt.Sprint(g), g.rows(), 1)
			}
		}
	}
}
