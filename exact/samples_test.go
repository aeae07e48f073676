package exact_test

import (
	"encoding/binary"
	"fmt"
	"math"
	"math/big"
	"slices"
	"testing"

	"dioptra/api"
	"dioptra/exact"
)

const (
	most     = api.MaxDim
	maxLimbs = 80 // of a number in a row
	maxBits  = 32 * maxLimbs
)

// grid is rows of exact numbers, made and reckoned without the packages that are tested.
type grid [][]*big.Int

// wholeOf is the right whole number of v.
func wholeOf(v *big.Int) api.Whole {
	limbs := make([]uint32, (v.BitLen()+31)/32)
	highFirst := v.FillBytes(make([]byte, 4*len(limbs)))
	for i := range limbs {
		limbs[len(limbs)-1-i] = binary.BigEndian.Uint32(highFirst[4*i:])
	}
	return api.Whole{Neg: v.Sign() < 0, Limbs: limbs}
}

// rows are the grid as the package takes it; of no rows nil.
func (g grid) rows() [][]api.Whole {
	var list [][]api.Whole
	for _, line := range g {
		var row []api.Whole
		for _, v := range line {
			row = append(row, wholeOf(v))
		}
		list = append(list, row)
	}
	return list
}

func (g grid) width() int {
	if len(g) == 0 {
		return 0
	}
	return len(g[0])
}

func (g grid) String() string {
	longest := 0
	for _, line := range g {
		for _, v := range line {
			longest = max(longest, v.BitLen())
		}
	}
	if longest > 64 {
		return fmt.Sprintf("%d by %d numbers of up to %d bits", len(g), g.width(), longest)
	}
	return fmt.Sprint([][]*big.Int(g))
}

// make2 is the grid of a function of row and column.
func make2(n, m int, at func(r, c int) *big.Int) grid {
	g := make(grid, n)
	for r := range n {
		g[r] = make([]*big.Int, m)
		for c := range m {
			g[r][c] = at(r, c)
		}
	}
	return g
}

// of is the grid of small numbers.
func of(lines ...[]int64) grid {
	var g grid
	for _, line := range lines {
		row := []*big.Int{}
		for _, n := range line {
			row = append(row, big.NewInt(n))
		}
		g = append(g, row)
	}
	return g
}

// turned has the grid's rows as columns.
func (g grid) turned() grid {
	return make2(g.width(), len(g), func(r, c int) *big.Int { return g[c][r] })
}

// part is what stands in the rows at and the columns cols.
func (g grid) part(at, cols []int) grid {
	return make2(len(at), len(cols), func(r, c int) *big.Int { return g[at[r]][cols[c]] })
}

// times is the product of two grids, h of one row at least.
func (g grid) times(h grid) grid {
	return make2(len(g), h.width(), func(r, c int) *big.Int {
		sum := new(big.Int)
		for i := range h {
			sum.Add(sum, new(big.Int).Mul(g[r][i], h[i][c]))
		}
		return sum
	})
}

// det is the determinant as the word says it: each way to take one number of each row and column, with its sign.
func (g grid) det() *big.Int {
	sum := new(big.Int)
	g.ways(0, nil, big.NewInt(1), sum)
	return sum
}

// ways adds up what the columns behind those that are taken can make.
func (g grid) ways(row int, taken []int, product, sum *big.Int) {
	if row == len(g) {
		sum.Add(sum, product)
		return
	}
	for c := range g {
		if slices.Contains(taken, c) {
			continue
		}
		next := new(big.Int).Mul(product, g[row][c])
		for _, before := range taken {
			if before > c {
				next.Neg(next)
			}
		}
		g.ways(row+1, append(slices.Clone(taken), c), next, sum)
	}
}

// rank is how many rows are left, if what hangs on others is taken off: each step keeps one row and clears a column of the rest.
func (g grid) rank() int {
	left := make2(len(g), g.width(), func(r, c int) *big.Int { return g[r][c] })
	rank := 0
	for c := range g.width() {
		at := slices.IndexFunc(left, func(row []*big.Int) bool { return row[c].Sign() != 0 })
		if at < 0 {
			continue
		}
		kept := left[at]
		left = slices.Delete(left, at, at+1)
		left = make2(len(left), g.width(), func(r, k int) *big.Int {
			x := new(big.Int).Mul(left[r][k], kept[c])
			return x.Sub(x, new(big.Int).Mul(kept[k], left[r][c]))
		})
		rank++
	}
	return rank
}

// parts are all lists of k rising places below n.
func parts(n, k int) [][]int {
	var lists [][]int
	for bits := range 1 << n {
		list := []int{}
		for i := range n {
			if bits>>i&1 == 1 {
				list = append(list, i)
			}
		}
		if len(list) == k {
			lists = append(lists, list)
		}
	}
	return lists
}

// dice gives the same bits in every run.
type dice uint64

func (d *dice) roll() uint64 {
	*d ^= *d << 13
	*d ^= *d >> 7
	*d ^= *d << 17
	return uint64(*d)
}

// small gives a number from -n to n.
func (d *dice) small(n int) *big.Int {
	return big.NewInt(int64(d.roll()%uint64(2*n+1)) - int64(n))
}

// long gives a number of n limbs; some limbs are 0 or full, since carries run through those.
func (d *dice) long(n int) *big.Int {
	v := new(big.Int)
	for i := range n {
		limb := d.roll() % (1 << 32)
		switch d.roll() % 4 {
		case 0:
			limb = 0
		case 1:
			limb = math.MaxUint32
		}
		if i == 0 {
			limb |= 1 << (d.roll() % 32)
		}
		v.Lsh(v, 32).Or(v, new(big.Int).SetUint64(limb))
	}
	if d.roll()%2 == 0 {
		v.Neg(v)
	}
	return v
}

// smalls gives n by m numbers from -top to top.
func (d *dice) smalls(n, m, top int) grid {
	return make2(n, m, func(r, c int) *big.Int { return d.small(top) })
}

// longs gives n by m numbers of that many limbs.
func (d *dice) longs(n, m, limbs int) grid {
	return make2(n, m, func(r, c int) *big.Int { return d.long(limbs) })
}

// greatest is 2^maxBits - 1, the greatest number that a row may hold.
func greatest() *big.Int {
	v := new(big.Int).Lsh(big.NewInt(1), maxBits)
	return v.Sub(v, big.NewInt(1))
}

// upright are six rows of signs: no determinant of ones with signs is greater than theirs, 160.
func upright() grid {
	return of(
		[]int64{-1, 1, 1, 1, 1, 1},
		[]int64{1, -1, 1, 1, 1, 1},
		[]int64{1, 1, -1, 1, 1, 1},
		[]int64{-1, -1, -1, -1, 1, 1},
		[]int64{-1, -1, -1, 1, -1, 1},
		[]int64{-1, -1, -1, 1, 1, -1},
	)
}

// zeros are n by m of them.
func zeros(n, m int) grid {
	return make2(n, m, func(r, c int) *big.Int { return new(big.Int) })
}

// scaled has each of the grid's numbers times v.
func (g grid) scaled(v *big.Int) grid {
	return make2(len(g), g.width(), func(r, c int) *big.Int { return new(big.Int).Mul(g[r][c], v) })
}

// named are grids that are known by what they are.
func named() []grid {
	one := big.NewInt(1)
	full := greatest()
	low := new(big.Int).Neg(full)
	return []grid{
		of(),
		of([]int64{0}), of([]int64{1}), of([]int64{-7}), of([]int64{math.MinInt64}),
		of([]int64{1, 2}, []int64{3, 4}),
		of([]int64{1, 2}, []int64{2, 4}),
		of([]int64{0, 1}, []int64{1, 0}),
		of([]int64{0, 0}, []int64{0, 5}),
		of([]int64{2, 0, 1}, []int64{1, 3, 2}, []int64{1, 1, 4}),
		of([]int64{0, 0, 1}, []int64{0, 1, 0}, []int64{1, 0, 0}),
		of([]int64{1, 2, 3}, []int64{4, 5, 6}, []int64{7, 8, 9}),
		upright(), upright().scaled(full), upright().scaled(low),
		make2(most, most, func(r, c int) *big.Int { return full }),
		make2(most, most, func(r, c int) *big.Int { return new(big.Int).Exp(big.NewInt(int64(r+2)), big.NewInt(int64(c)), nil) }),
		make2(most, most, func(r, c int) *big.Int { return new(big.Int).Mul(full, big.NewInt(int64(1&^((r^c)&1)))) }),
		make2(most, most, func(r, c int) *big.Int { return new(big.Int).Rsh(full, uint(32*(r*most+c))) }),
		make2(most, most, func(r, c int) *big.Int {
			if r == c {
				return one
			}
			return new(big.Int)
		}),
		make2(most, most, func(r, c int) *big.Int { // a ring of places
			if c == (r+1)%most {
				return low
			}
			return new(big.Int)
		}),
		of([]int64{0, 0, 0, 0, 0, 0}, []int64{0, 0, 0, 0, 0, 0}, []int64{0, 0, 0, 0, 0, 9}),
		of([]int64{0, 0, 0}, []int64{0, 0, 0}, []int64{0, 2, 0}, []int64{0, 0, 0}, []int64{3, 0, 0}),
	}
}

// samples are grids of all sizes: small numbers, long ones, the longest, and those whose rows hang on each other.
func samples() []grid {
	list := named()
	d := dice(20261116)
	for n := 1; n <= most; n++ {
		for m := range most + 1 {
			list = append(list, zeros(n, m), d.smalls(n, m, 1), d.smalls(n, m, 9), d.longs(n, m, 1+int(d.roll()%8)))
			for k := 1; k <= min(n, m); k++ {
				list = append(list, d.smalls(n, k, 2).times(d.smalls(k, m, 3)), d.longs(n, k, 2).times(d.longs(k, m, 3)))
			}
		}
		list = append(list, d.smalls(n, n, 2), d.longs(n, n, maxLimbs), d.longs(n, most, maxLimbs), d.longs(most, n, maxLimbs))
		list = append(list, d.longs(most, n, maxLimbs/2-1).times(d.longs(n, most, maxLimbs/2)))
	}
	return list
}

// squares are those samples that have as many columns as rows.
func squares() []grid {
	return slices.DeleteFunc(samples(), func(g grid) bool { return g.width() != len(g) })
}

func same(a, b api.Whole) bool {
	return a.Neg == b.Neg && slices.Equal(a.Limbs, b.Limbs)
}

// show tells a number in few words, however long it is.
func show(a api.Whole) string {
	limbs := a.Limbs
	if len(limbs) > 4 {
		limbs = append(slices.Clone(limbs[:2]), limbs[len(limbs)-2:]...)
	}
	return fmt.Sprintf("{%v %d limbs %x}", a.Neg, len(a.Limbs), limbs)
}

// wants asks for a number.
func wants(t *testing.T, what string, got api.Whole, e api.Errno, want *big.Int) {
	t.Helper()
	if e != api.OK || !same(got, wholeOf(want)) {
		t.Errorf("%s: %s, %v; wanted %s", what, show(got), e, show(wholeOf(want)))
	}
}

// wantsError asks for an error with a zero value beside it.
func wantsError(t *testing.T, what string, got api.Whole, e, want api.Errno) {
	t.Helper()
	if e != want || got.Neg || len(got.Limbs) != 0 {
		t.Errorf("%s: %s, %v; wanted %v", what, show(got), e, want)
	}
}

// wantsRank asks for a rank.
func wantsRank(t *testing.T, what string, rows [][]api.Whole, want int) {
	t.Helper()
	if k, e := exact.Rank(rows); k != want || e != api.OK {
		t.Errorf("%s: rank %d, %v; wanted %d", what, k, e, want)
	}
}

// TestSamplesAreWorthIt guards the other tests: all sizes, ranks and the longest numbers must be among what they ask.
func TestSamplesAreWorthIt(t *testing.T) {
	seen := map[[3]int]bool{}
	longest, noughts := 0, 0
	for _, g := range samples() {
		seen[[3]int{len(g), g.width(), g.rank()}] = true
		for _, line := range g {
			for _, v := range line {
				longest = max(longest, v.BitLen())
			}
		}
		if len(g) == g.width() && g.det().Sign() == 0 {
			noughts++
		}
	}
	for n := 1; n <= most; n++ {
		for m := range most + 1 {
			for k := range min(n, m) + 1 {
				if !seen[[3]int{n, m, k}] {
					t.Errorf("no sample of %d by %d with the rank %d", n, m, k)
				}
			}
		}
	}
	if longest != maxBits || noughts < 40 {
		t.Errorf("%d bits, %d determinants that are 0", longest, noughts)
	}
	if d := upright().det(); d.CmpAbs(big.NewInt(160)) != 0 {
		t.Errorf("the signs' determinant is %d", d)
	}
}
