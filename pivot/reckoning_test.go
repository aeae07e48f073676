package pivot_test

import (
	"fmt"
	"math"
	"slices"
	"testing"

	"dioptra/api"
	"dioptra/compare"
	"dioptra/house"
	"dioptra/matrix"
	"dioptra/vector"
)

// gosDot is the sum of products by the machine's own numbers. The conversions keep it from rounding once for two operations.
func gosDot(x, y []float64) float64 {
	s := 0.0
	for i := range x {
		s = float64(s + float64(x[i]*y[i]))
	}
	return s
}

// gosNorm is the norm of whatever numbers.
func gosNorm(x []float64) float64 {
	most := 0.0
	for _, f := range x {
		most = max(most, math.Abs(f)) // of what is no number it is none
	}
	if most == 0 || !isFinite(most) {
		return most
	}
	k := math.Ilogb(most)
	t := make([]float64, len(x))
	for i, f := range x {
		t[i] = math.Ldexp(f, -k)
	}
	return math.Ldexp(math.Sqrt(gosDot(t, t)), k)
}

// gosMirror is what a mirror is by the machine's own numbers.
type gosMirror struct {
	v         []float64
	tau, beta float64
}

// gosMake is x's mirror, and whether there is one.
func gosMake(x []float64) (gosMirror, bool) {
	v := make([]float64, len(x))
	v[0] = 1
	sign, others := 0.0, false
	for i, f := range x {
		if !isFinite(f) {
			return gosMirror{}, false
		}
		if f != 0 && sign == 0 {
			sign = math.Copysign(1, f)
		}
		others = others || i > 0 && f != 0
	}
	if !others {
		return gosMirror{v, 0, x[0]}, true
	}
	beta := -sign * gosNorm(x)
	d := x[0] - beta
	if !isFinite(beta) || !isFinite(d) {
		return gosMirror{}, false
	}
	for i := 1; i < len(x); i++ {
		v[i] = x[i] / d
	}
	return gosMirror{v, float64(beta-x[0]) / beta, beta}, true
}

// table is a matrix of the machine's own numbers, row by row.
type table [][]float64

func tableOf(m api.Matrix) table {
	t := make(table, m.Rows)
	for i := range t {
		for k := range m.Cols {
			t[i] = append(t[i], float(*at(m, i, k)))
		}
	}
	return t
}

// matrix is a right matrix of so many columns.
func (t table) matrix(cols int) api.Matrix {
	m := of(len(t), cols)
	for _, row := range t {
		for _, f := range row {
			m.Data = append(m.Data, says(f))
		}
	}
	return m
}

// column is column k from row i on.
func (t table) column(i, k int) []float64 {
	var x []float64
	for _, row := range t[i:] {
		x = append(x, row[k])
	}
	return x
}

// mirror mirrors t from row i and column k on.
func (t table) mirror(m gosMirror, i, k int) {
	for c := k; c < len(t[i]); c++ {
		s := float64(m.tau * gosDot(m.v, t.column(i, c)))
		for j, v := range m.v {
			t[i+j][c] = float64(t[i+j][c] - float64(s*v))
		}
	}
}

func (t table) finite() bool {
	for _, row := range t {
		for _, f := range row {
			if !isFinite(f) {
				return false
			}
		}
	}
	return true
}

// end is how the factoring of a matrix comes to its end.
type end struct {
	why    string // "ok", or what is not finite, or can't be made: "norm", "mirror", "factor"
	step   int    // in which step; how many mirrors there are, if it went through all
	behind int    // of a norm: how far behind the step's own column
}

// gosFactors are the factors of a right matrix of finite numbers by the machine's own ones. Norms are all reckoned ahead of any being held against another one.
func gosFactors(a api.Matrix) (factored, end) {
	down, up, places := tableOf(a), tableOf(eye(a.Rows)), inOrder(a.Cols)
	var mirrors []gosMirror
	for j := 0; j < a.Cols && j < a.Rows; j++ {
		norms := make([]float64, a.Cols)
		for k := j; k < a.Cols; k++ {
			if norms[k] = gosNorm(down.column(j, k)); !isFinite(norms[k]) {
				return factored{}, end{"norm", j, k - j}
			}
		}
		best := a.Cols - 1
		for k := a.Cols - 2; k >= j; k-- { // backwards, so that of such as are as much the first one is kept
			if norms[k] >= norms[best] {
				best = k
			}
		}
		for _, row := range down {
			row[j], row[best] = row[best], row[j]
		}
		places[j], places[best] = places[best], places[j]
		if j >= a.Rows-1 {
			continue
		}
		m, is := gosMake(down.column(j, j))
		if !is {
			return factored{}, end{"mirror", j, 0}
		}
		down.mirror(m, j, j)
		down[j][j] = m.beta
		for i := j + 1; i < a.Rows; i++ {
			down[i][j] = 0
		}
		mirrors = append(mirrors, m)
	}
	for j := len(mirrors) - 1; j >= 0; j-- {
		up.mirror(mirrors[j], j, 0)
	}
	if !down.finite() || !up.finite() {
		return factored{}, end{"factor", len(mirrors), 0}
	}
	return factored{up.matrix(a.Rows), down.matrix(a.Cols), places}, end{"ok", len(mirrors), 0}
}

// wantsGos holds Factor against the machine's own numbers, bit for bit.
func wantsGos(t *testing.T, a api.Matrix) {
	t.Helper()
	if want, how := gosFactors(a); how.why == "ok" {
		wantsFactors(t, a, want)
	} else {
		wantsNone(t, a, api.ErrRange)
	}
}

// TestP16_1GosOwn goes over all sizes with numbers of all sorts, of very unlike sizes, the greatest and the least among them.
func TestP16_1GosOwn(t *testing.T) {
	d := dice(1601)
	for _, s := range sizes() {
		for _, pick := range d.sorts() {
			for range 5 {
				wantsGos(t, picked(s[0], s[1], pick))
			}
		}
	}
}

// TestP16_1GosOwnSquare: of just MaxDim rows and columns, where all steps are done one after another.
func TestP16_1GosOwnSquare(t *testing.T) {
	d := dice(1602)
	for _, pick := range d.sorts() {
		for range 30 {
			wantsGos(t, picked(api.MaxDim, api.MaxDim, pick))
		}
	}
}

// TestP16_1Mixed: each column of a sort of its own.
func TestP16_1Mixed(t *testing.T) {
	d := dice(1603)
	sorts := d.sorts()
	for range 1500 {
		m := of(1+d.below(6), 1+d.below(6))
		columns := make([]func() api.Bits, m.Cols)
		for k := range columns {
			columns[k] = sorts[d.below(len(sorts))]
		}
		for range m.Rows {
			for _, pick := range columns {
				m.Data = append(m.Data, pick())
			}
		}
		wantsGos(t, m)
	}
}

// TestP16_1NoughtColumns: a column of noughts of either sign, at each place, and two of them.
func TestP16_1NoughtColumns(t *testing.T) {
	d := dice(1604)
	for _, s := range sizes() {
		for k := range s[1] {
			for _, pick := range []func() api.Bits{d.near(-3, 6), d.small(3), d.out(finites())} {
				m := d.noughtColumn(picked(s[0], s[1], pick), k)
				wantsGos(t, m)
				wantsGos(t, d.noughtColumn(m, d.below(s[1])))
			}
		}
		noughts := picked(s[0], s[1], d.out(noughts()))
		wantsGos(t, noughts)
		if got, e := factor(noughts); !slices.Equal(got.places, inOrder(s[1])) || e != api.OK {
			t.Errorf("%s: %v\n%v", show(noughts), got, e)
		}
	}
}

// TestP16_1EqualNorms: columns of the same numbers in another order, or with other signs: as long as sums of squares are the same, the first one is taken, and nothing changes places.
func TestP16_1EqualNorms(t *testing.T) {
	d := dice(1605)
	for _, s := range sizes() {
		for range 8 {
			m := of(s[0], s[1], slices.Repeat([]api.Bits{api.Zero}, s[0]*s[1])...)
			one := picked(s[0], 1, d.small(9))
			for k := range s[1] {
				for i, from := range d.shuffled(s[0]) {
					*at(m, i, k) = one.Data[from] ^ d.out(noughts())()
				}
			}
			wantsGos(t, m)
			if got, e := factor(m); len(got.places) > 0 && s[0] > 0 && got.places[0] != 0 || e != api.OK {
				t.Errorf("%s: %v\n%v", show(m), got, e)
			}
		}
	}
}

// TestP16_1OnlySigns: columns that differ only in their signs are left where they are, in the first step and, being the same from there on, in each later one.
func TestP16_1OnlySigns(t *testing.T) {
	d := dice(1606)
	for _, s := range sizes() {
		if s[1] == 0 {
			continue
		}
		for _, pick := range append(d.middle(), d.near(-1022, 4), d.tiny()) {
			m := d.signs(columnsOf(picked(s[0], 1, pick), make([]int, s[1])...))
			wantsGos(t, m)
			if got, e := factor(m); !slices.Equal(got.places, inOrder(s[1])) || e != api.OK {
				t.Errorf("%s: %v\n%v", show(m), got, e)
			}
		}
	}
}

// TestP16_1FirstOfEqual: the greatest column twice, at each two places: the first one comes to the front, and what stood there goes to its place.
func TestP16_1FirstOfEqual(t *testing.T) {
	d := dice(1607)
	for cols := 2; cols <= api.MaxDim; cols++ {
		for one := range cols {
			for other := range cols {
				if one == other {
					continue
				}
				row := picked(1, cols, d.small(3))
				row.Data[one], row.Data[other] = five, minus(five)
				first := min(one, other)
				want := inOrder(cols)
				want[0], want[first] = first, 0
				wantsFactors(t, row, factored{eye(1), columnsOf(row, want...), want})
				tall := clone(row)
				tall.Rows, tall.Data = 3, slices.Concat(row.Data, each(row, minus).Data, row.Data)
				wantsGos(t, tall)
				if got, e := factor(tall); got.places[0] != first || e != api.OK {
					t.Errorf("%s: %v\n%v", show(tall), got, e)
				}
			}
		}
	}
}

// TestP16_1Multiples: columns that are multiples of one another.
func TestP16_1Multiples(t *testing.T) {
	d := dice(1608)
	for _, s := range sizes() {
		for _, pick := range append(d.middle(), d.tiny(), d.near(-1022, 4)) {
			wantsGos(t, d.multiples(s[0], s[1], pick))
		}
	}
}

// TestP16_1WhereTheGreatestStands: at its place already, at the last one, and in between, in each step.
func TestP16_1WhereTheGreatestStands(t *testing.T) {
	d := dice(1609)
	for _, s := range sizes() {
		for range 12 {
			order := d.shuffled(s[1])
			m := picked(s[0], s[1], d.near(-1, 2))
			for i := range s[0] {
				for k := range s[1] {
					*at(m, i, k) = says(math.Ldexp(float(*at(m, i, k)), -9*order[k]))
				}
			}
			wantsGos(t, m)
			want := make([]int, s[1]) // as far as there are steps the columns come by their sizes
			for k, place := range order {
				want[place] = k
			}
			if got, e := factor(m); e != api.OK || !slices.Equal(got.places[:min(s[0], s[1])], want[:min(s[0], s[1])]) {
				t.Errorf("%s: %v\n%v; wanted places %v", show(m), got, e, want)
			}
		}
	}
}

// TestP16_1AtItsPlace: what is 0 below its diagonal, with columns that grow less and less, is told as it is; with the last one greatest it comes to the front.
func TestP16_1AtItsPlace(t *testing.T) {
	for n := 1; n <= api.MaxDim; n++ {
		m, back := filled(n, n, api.Zero), filled(n, n, api.Zero)
		for k := range n {
			*at(m, k, k), *at(back, 0, k) = power(-k), power(k)
		}
		wantsFactors(t, m, factored{eye(n), m, inOrder(n)})
		want := inOrder(n)
		want[0], want[n-1] = n-1, 0
		wantsFactors(t, back, factored{eye(n), columnsOf(back, want...), want})
	}
}

// TestP16_1LastRow: columns change places in the last row too, though nothing is mirrored there, and not behind it.
func TestP16_1LastRow(t *testing.T) {
	wantsFactors(t, of(2, 3, five, api.One, two, api.Zero, api.One, minus(three)), factored{eye(2), of(2, 3, five, two, api.One, api.Zero, minus(three), api.One), []int{0, 2, 1}})
	wantsFactors(t, of(3, 5, five, 0, 0, 0, 0, 0, four, 0, 0, 0, 0, 0, api.One, two, three), factored{eye(3), of(3, 5, five, 0, 0, 0, 0, 0, four, 0, 0, 0, 0, 0, three, two, api.One), []int{0, 1, 4, 3, 2}})
	wantsFactors(t, of(2, 2, five, 0, 0, minus(two)), factored{eye(2), of(2, 2, five, 0, 0, minus(two)), []int{0, 1}})
	wantsFactors(t, of(3, 2, five, 0, 0, 0, 0, 0), factored{eye(3), of(3, 2, five, 0, 0, 0, 0, 0), []int{0, 1}})
	d := dice(1610)
	changes := 0
	for rows := 1; rows < api.MaxDim; rows++ {
		for range 60 {
			m := picked(rows, api.MaxDim, d.near(-3, 6))
			wantsGos(t, m)
			got, _ := factor(m)
			left := got.places[rows-1:]
			if len(left) > 1 && left[0] > slices.Min(left) {
				changes++
			}
			for k := rows; k < m.Cols; k++ { // of the last row's numbers, from the diagonal on, the first is greatest
				if math.Abs(float(*at(got.r, rows-1, k))) > math.Abs(float(*at(got.r, rows-1, rows-1))) {
					t.Errorf("%s: %v", show(m), got)
				}
			}
		}
	}
	if changes < 100 {
		t.Errorf("in the last row %d columns came from behind", changes)
	}
}

// TestP16_1FromRowJOn: a norm is reckoned from the step's row on, not from the first one, and whole columns change places, the rows above too.
func TestP16_1FromRowJOn(t *testing.T) {
	nine, ten := says(9), says(10)
	wantsFactors(t, of(3, 3, ten, nine, 0, 0, api.One, two, 0, 0, 0), factored{eye(3), of(3, 3, ten, 0, nine, 0, two, api.One, 0, 0, 0), []int{0, 2, 1}})
	wantsFactors(t, of(3, 4, ten, nine, nine, api.One, 0, four, three, two, 0, 0, api.One, two), factored{eye(3), of(3, 4, ten, nine, api.One, nine, 0, four, two, three, 0, 0, two, api.One), []int{0, 1, 3, 2}})
}

// TestP16_1Swapped: one number in each row and column, of either sign, at whatever places: the greatest come first.
func TestP16_1Swapped(t *testing.T) {
	d := dice(1611)
	for range 300 {
		n := 1 + d.below(api.MaxDim)
		m := filled(n, n, api.Zero)
		sizes := d.shuffled(n)
		for i, k := range d.shuffled(n) {
			*at(m, i, k) = power(100*sizes[k]-300) | d.out(noughts())()
		}
		wantsGos(t, m)
		want := make([]int, n)
		for k, size := range sizes {
			want[n-1-size] = k
		}
		got, e := factor(m)
		if !slices.Equal(got.places, want) || e != api.OK {
			t.Errorf("%s: %v\n%v; wanted places %v", show(m), got, e, want)
		}
	}
}

// TestP16_1ByHand: the examples, and such as tell a change of two places from all others moving on by one, beta and Zero from what mirroring gives, and the last mirror's turn from the first one's.
func TestP16_1ByHand(t *testing.T) {
	for _, c := range []struct {
		a    api.Matrix
		want factored
	}{
		{of(1, 2, api.One, three), factored{eye(1), of(1, 2, three, api.One), []int{1, 0}}},
		{of(1, 3, api.One, api.One, three), factored{eye(1), of(1, 3, three, api.One, api.One), []int{2, 1, 0}}},
		{of(1, 6, api.One, two, three, four, five, minus(says(6))), factored{eye(1), of(1, 6, minus(says(6)), two, three, four, five, api.One), []int{5, 1, 2, 3, 4, 0}}},
		{of(1, 3, api.One, two, two), factored{eye(1), of(1, 3, two, api.One, two), []int{1, 0, 2}}},
		{of(1, 2, api.NegZero, api.Zero), factored{eye(1), of(1, 2, api.NegZero, api.Zero), []int{0, 1}}},
		{of(1, 2, minus(three), three), factored{eye(1), of(1, 2, minus(three), three), []int{0, 1}}},
		{of(1, 1, minus(three)), factored{eye(1), of(1, 1, minus(three)), []int{0}}},
		{of(2, 1, three, four), factored{of(2, 2, 0xbfe3333333333334, 0xbfe999999999999a, 0xbfe999999999999a, 0x3fe3333333333333), of(2, 1, minus(five), api.Zero), []int{0}}},
		{of(2, 1, minus(three), api.NegZero), factored{eye(2), of(2, 1, minus(three), api.Zero), []int{0}}},
		{of(2, 2, api.Zero, api.Zero, api.One, two), factored{of(2, 2, api.Zero, minus(api.One), minus(api.One), api.Zero), of(2, 2, minus(two), minus(api.One), api.Zero, api.Zero), []int{1, 0}}},
		{of(3, 3, api.One, 0, 0, 0, five, 0, 0, 0, three), factored{of(3, 3, 0, 0, api.One, minus(api.One), 0, 0, 0, minus(api.One), 0), of(3, 3, minus(five), 0, 0, 0, minus(three), 0, 0, 0, api.One), []int{1, 2, 0}}},
	} {
		wantsFactors(t, c.a, c.want)
	}
	twice := of(2, 2, api.One, two, two, four) // the second example
	wantsGos(t, twice)
	got, e := factor(twice)
	if !slices.Equal(got.places, []int{1, 0}) || e != api.OK {
		t.Errorf("%s: %v\n%v", show(twice), got, e)
	}
	wantsTold(t, got.r, 1)
}

// TestP16_1NoStep: of no rows or no columns r is a as it came in, and places are in order; of one row there is one step without a mirror.
func TestP16_1NoStep(t *testing.T) {
	d := dice(1612)
	for n := range api.MaxDim + 1 {
		wantsFactors(t, of(0, n), factored{of(0, 0), of(0, n), inOrder(n)})
		wantsFactors(t, of(n, 0), factored{eye(n), of(n, 0), nil})
		for _, pick := range append(d.sorts(), d.out(finites())) {
			row := picked(1, n, pick)
			places := inOrder(n)
			for k := range n {
				if math.Abs(float(row.Data[k])) > math.Abs(float(row.Data[places[0]])) {
					places = inOrder(n)
					places[0], places[k] = k, 0
				}
			}
			wantsFactors(t, row, factored{eye(1), columnsOf(row, places...), places})
		}
	}
}

// TestP16_1LostDigits: columns that mirrors before them have made so small that their own mirror has but few digits are factored in the written order all the same, though q does not stand upright then.
func TestP16_1LostDigits(t *testing.T) {
	a := filled(6, 4, api.Zero)
	for k := range 3 {
		*at(a, k, k), *at(a, k+1, k) = power(199), power(-200)
	}
	for i := 3; i < 6; i++ {
		*at(a, i, 2) = power(124)
	}
	*at(a, 0, 3) = power(-200)
	wantsGos(t, a)
	got, e := factor(a)
	if *at(got.r, 3, 3) != 3 || standsUpright(got.q) || e != api.OK { // thrice the least number
		t.Errorf("%s: %v\n%v", show(a), got, e)
	}
}

// TestP16_1BetaAndZero: what stands on the diagonal and below it is not what mirroring gives there; numbers in which that is another one must be among those that are tested.
func TestP16_1BetaAndZero(t *testing.T) {
	d := dice(1613)
	others := [2]int{}
	for range 300 {
		m := picked(2+d.below(5), 1+d.below(6), d.near(-3, 6))
		got, e := factor(m)
		if e != api.OK {
			t.Errorf("%s: %v", show(m), e)
			continue
		}
		v, tau, beta, _ := house.Make(columnsOf(m, got.places[0]).Data)
		mirrored, _ := house.Apply(columnsOf(m, got.places[0]), 0, 0, v, tau)
		if *at(got.r, 0, 0) != beta {
			t.Errorf("%s: %v; wanted %x at the first place", show(m), got, beta)
		}
		if *at(mirrored, 0, 0) != beta {
			others[0]++
		}
		for i := 1; i < m.Rows; i++ {
			if *at(got.r, i, 0) != api.Zero {
				t.Errorf("%s: %v", show(m), got)
			}
			if *at(mirrored, i, 0) != api.Zero {
				others[1]++
			}
		}
	}
	if others[0] < 50 || others[1] < 50 {
		t.Errorf("other numbers came of mirroring %v times", others)
	}
}

// byLayersBelow are the factors as the calls of layers 8, 9, 10 and 13 give them, one after another.
func byLayersBelow(a api.Matrix) factored {
	r, q, places := clone(a), eye(a.Rows), inOrder(a.Cols)
	var vs [][]api.Bits
	var taus []api.Bits
	for j := 0; j < a.Cols && j < a.Rows; j++ {
		best, most := j, api.Zero
		for k := j; k < a.Cols; k++ {
			column, _ := matrix.Part(r, j, k, a.Rows-j, 1)
			norm, _ := vector.Norm(column.Data)
			if k == j || compare.Less(most, norm) {
				best, most = k, norm
			}
		}
		order := inOrder(a.Cols)
		order[j], order[best] = best, j
		r = columnsOf(r, order...)
		places[j], places[best] = places[best], places[j]
		if j == a.Rows-1 {
			break
		}
		column, _ := matrix.Part(r, j, j, a.Rows-j, 1)
		v, tau, beta, _ := house.Make(column.Data)
		r, _ = house.Apply(r, j, j, v, tau)
		*at(r, j, j) = beta
		for i := j + 1; i < a.Rows; i++ {
			*at(r, i, j) = api.Zero
		}
		vs, taus = append(vs, v), append(taus, tau)
	}
	for j := len(vs) - 1; j >= 0; j-- {
		q, _ = house.Apply(q, j, 0, vs[j], taus[j])
	}
	return factored{q, r, places}
}

// TestP1ByLayersBelow: the factors are what the layers below give, in the written order.
func TestP1ByLayersBelow(t *testing.T) {
	d := dice(1614)
	for _, s := range sizes() {
		for _, pick := range d.middle() {
			a := picked(s[0], s[1], pick)
			wantsFactors(t, a, byLayersBelow(a))
		}
	}
}

// TestP16_1Ends guards the tests above: matrices of numbers near the greatest one come to all ends that there are.
func TestP16_1Ends(t *testing.T) {
	d := dice(1615)
	count := map[string]int{}
	for range 5000 {
		m := picked(3, 3, d.sparse(d.near(1021, 3)))
		wantsGos(t, m)
		_, how := gosFactors(m)
		count[fmt.Sprint(how.why, how.step)]++
	}
	for range 4000 {
		m := d.brim(3, 3)
		wantsGos(t, m)
		_, how := gosFactors(m)
		count[fmt.Sprint(how.why, how.step)]++
	}
	for _, which := range []string{"ok2", "norm0", "norm1", "mirror0", "mirror1", "factor2"} {
		if count[which] < 10 {
			t.Errorf("which ends: %v", count)
		}
	}
}
