package gglm_test

import (
	"fmt"
	"math"
	"math/big"
	"slices"
	"testing"

	"dioptra/api"
	"dioptra/gglm"
)

const (
	greatest    = api.Inf - 1
	leastNormal = api.Bits(1 << 52)
	least       = api.Bits(1)

	half  = api.Bits(0x3fe0000000000000)
	two   = api.Bits(0x4000000000000000)
	three = api.Bits(0x4008000000000000)
	four  = api.Bits(0x4010000000000000)
)

// dice gives the same bits in every run.
type dice uint64

func (d *dice) roll() uint64 {
	*d ^= *d << 13
	*d ^= *d >> 7
	*d ^= *d << 17
	return uint64(*d)
}

// below is a number from 0 on, below n.
func (d *dice) below(n int) int {
	return int(d.roll() >> 1 % uint64(n))
}

// power is 2^e, of a normal number.
func power(e int) api.Bits {
	return api.Bits(1023+e) << 52
}

// minus is b with the other sign.
func minus(b api.Bits) api.Bits {
	return b ^ api.NegZero
}

func float(b api.Bits) float64 {
	return math.Float64frombits(uint64(b))
}

// says is the machine's own number by its bits, whatever no number it makes.
func says(f float64) api.Bits {
	if math.IsNaN(f) {
		return api.NaN
	}
	return api.Bits(math.Float64bits(f))
}

func isFinite(f float64) bool {
	return f-f == 0
}

func noughts() []api.Bits {
	return []api.Bits{api.Zero, api.NegZero}
}

// notFinite are numbers without an end, and the edges of what is no number, of both signs.
func notFinite() []api.Bits {
	return []api.Bits{api.Inf, api.NegInf, api.NaN, api.Inf + 1, api.NaN - 1, api.NaN + 1, 1<<63 - 1, api.NegInf + 1, minus(api.NaN), math.MaxUint64}
}

// finites are noughts, and numbers of both signs at which kinds and powers change.
func finites() []api.Bits {
	list := noughts()
	for _, b := range []api.Bits{least, 2, 3, leastNormal - 1, leastNormal, power(-600), power(-30), power(-53), api.One - 1, api.One, api.One + 1, three, power(53), power(30) - 1, power(700), power(1022), power(1023), greatest - 1, greatest} {
		list = append(list, b, minus(b))
	}
	return list
}

// all are numbers of all kinds.
func all() []api.Bits {
	return append(finites(), notFinite()...)
}

// of is a matrix of these numbers.
func of(rows, cols int, data ...api.Bits) api.Matrix {
	return api.Matrix{Rows: rows, Cols: cols, Data: data}
}

// wholes is a matrix of these whole numbers.
func wholes(rows, cols int, data ...int64) api.Matrix {
	m := of(rows, cols)
	for _, number := range data {
		m.Data = append(m.Data, says(float64(number)))
	}
	return m
}

// picked is a matrix of numbers that pick makes.
func picked(rows, cols int, pick func() api.Bits) api.Matrix {
	m := of(rows, cols)
	for range rows * cols {
		m.Data = append(m.Data, pick())
	}
	return m
}

// filled is a matrix of one number.
func filled(rows, cols int, b api.Bits) api.Matrix {
	return of(rows, cols, slices.Repeat([]api.Bits{b}, max(0, rows*cols))...)
}

// withDiagonal is a matrix of one number, with these on its diagonal.
func withDiagonal(rows, cols int, other api.Bits, diagonal ...api.Bits) api.Matrix {
	m := filled(rows, cols, other)
	for j, b := range diagonal {
		*at(m, j, j) = b
	}
	return m
}

// eye has One where row and column are the same, else Zero.
func eye(n int) api.Matrix {
	return withDiagonal(n, n, api.Zero, filled(n, 1, api.One).Data...)
}

// clone is a matrix of its own.
func clone(m api.Matrix) api.Matrix {
	m.Data = slices.Clone(m.Data)
	return m
}

// at is the place of row i and column k in m's numbers.
func at(m api.Matrix, i, k int) *api.Bits {
	return &m.Data[i*m.Cols+k]
}

// near are numbers of both signs, of powers from e on below e + span.
func (d *dice) near(e, span int) func() api.Bits {
	return func() api.Bits {
		return power(e+d.below(span)) | api.Bits(d.roll())>>12 | api.Bits(d.roll())&api.NegZero
	}
}

// out are numbers out of a list.
func (d *dice) out(list []api.Bits) func() api.Bits {
	return func() api.Bits { return list[d.below(len(list))] }
}

// small are whole numbers from -n to n.
func (d *dice) small(n int) func() api.Bits {
	return func() api.Bits { return says(float64(d.below(2*n+1) - n)) }
}

// finite are numbers of any bits, what is not finite left out.
func (d *dice) finite() func() api.Bits {
	return func() api.Bits {
		b := api.Bits(d.roll())
		for !isFinite(float(b)) {
			b = api.Bits(d.roll())
		}
		return b
	}
}

// tiny are subnormal numbers of both signs.
func (d *dice) tiny() func() api.Bits {
	return func() api.Bits { return api.Bits(d.roll())>>12 | api.Bits(d.roll())&api.NegZero }
}

// sparse are noughts of both signs, and now and then what pick makes.
func (d *dice) sparse(pick func() api.Bits) func() api.Bits {
	return func() api.Bits {
		if d.below(3) > 0 {
			return noughts()[d.below(2)]
		}
		return pick()
	}
}

// middle are numbers that are neither very great nor very small: of several spans of powers, at both edges, and noughts.
func (d *dice) middle() []func() api.Bits {
	edges := []api.Bits{power(-30), power(-30) + 1, power(30) - 1, power(29), api.One, api.One + 1, api.One - 1, minus(power(-30)), minus(power(30) - 1), minus(api.One), api.Zero, api.NegZero}
	return []func() api.Bits{d.small(1), d.small(9), d.near(0, 1), d.near(-3, 6), d.near(-10, 20), d.near(-30, 60), d.near(-30, 3), d.near(27, 3), d.out(edges), d.out(noughts()), d.sparse(d.near(-10, 20)), d.sparse(d.near(-30, 60)), d.sparse(d.out(edges)), d.sparse(d.small(1))}
}

// sorts are several sorts of finite numbers: of the middle, at both ends of what is finite, and of any bits.
func (d *dice) sorts() []func() api.Bits {
	return append(d.middle(), d.near(-200, 400), d.near(1018, 6), d.near(1022, 1), d.near(506, 10), d.near(-545, 16), d.near(-1022, 4), d.near(-1022, 60), d.tiny(), d.finite(), d.out(finites()), d.sparse(d.near(1019, 4)), d.sparse(d.finite()), d.out([]api.Bits{greatest, minus(greatest), least, minus(least), api.Zero, api.NegZero}))
}

// mixed is a matrix whose columns are of unlike sorts of the middle.
func (d *dice) mixed(rows, cols int) api.Matrix {
	sorts := d.middle()
	m := filled(rows, cols, api.Zero)
	for k := range cols {
		pick := sorts[d.below(len(sorts))]
		for i := range rows {
			*at(m, i, k) = pick()
		}
	}
	return m
}

// sizes are all that a matrix may have.
func sizes() [][2]int {
	var list [][2]int
	for rows := range api.MaxDim + 1 {
		for cols := range api.MaxDim + 1 {
			list = append(list, [2]int{rows, cols})
		}
	}
	return list
}

// wrong are matrices of that number that are not right: sizes out of their range, with as many numbers as the product of the sizes says, wrapped round, as far as there can be so many; Data too short or too long.
func wrong(b api.Bits) []api.Matrix {
	beyond := []int{-1, -2, -6, -1 << 32, math.MinInt, math.MinInt / 2, api.MaxDim + 1, api.MaxDim + 2, 36, 1 << 32, 1 << 62, math.MaxInt - 1, math.MaxInt}
	var list []api.Matrix
	for _, n := range beyond {
		for _, k := range append(beyond, 0, 1, 2, api.MaxDim) {
			data := filled(max(0, min(n*k, 100)), 1, b).Data
			list = append(list, of(n, k, data...), of(k, n, data...), of(n, k), of(k, n))
		}
	}
	for _, s := range sizes() {
		right := s[0] * s[1]
		list = append(list, of(s[0], s[1], filled(right+1, 1, b).Data...), of(s[0], s[1], filled(right+6, 1, b).Data...))
		if right > 0 {
			list = append(list, of(s[0], s[1], filled(right, 1, b).Data[:right-1]...), of(s[0], s[1])) // the one that it lacks lies behind its end
		}
	}
	return list
}

// justWrong are matrices that are only just not right: of -1 and of MaxDim + 1 rows or columns, Data too short or too long by one number.
func justWrong(b api.Bits) []api.Matrix {
	var list []api.Matrix
	for _, s := range [][3]int{{-1, 1, 0}, {1, -1, 0}, {-1, 0, 0}, {0, -1, 0}, {-1, -1, 1}, {7, 1, 7}, {1, 7, 7}, {7, 0, 0}, {0, 7, 0}, {7, 7, 49}, {2, 3, 5}, {2, 3, 7}, {3, 2, 5}, {3, 2, 7}, {6, 6, 35}, {6, 6, 37}, {1, 1, 0}, {1, 1, 2}, {0, 0, 1}, {0, 6, 1}, {6, 0, 1}} {
		list = append(list, of(s[0], s[1], filled(s[2], 1, b).Data...))
	}
	return list
}

// turned has m's rows as columns.
func turned(m api.Matrix) api.Matrix {
	t := of(m.Cols, m.Rows)
	for k := range m.Cols {
		for i := range m.Rows {
			t.Data = append(t.Data, *at(m, i, k))
		}
	}
	return t
}

// each is a matrix of what number says of each number of m.
func each(m api.Matrix, number func(b api.Bits) api.Bits) api.Matrix {
	r := clone(m)
	for i, b := range m.Data {
		r.Data[i] = number(b)
	}
	return r
}

// shape is the sizes of a task: of n rows, m columns of a, p columns of b.
type shape struct{ n, m, p int }

// shapes are all that a task may have.
func shapes() []shape {
	var list []shape
	for n := range api.MaxDim + 1 {
		for m := range n + 1 {
			for p := range api.MaxDim + 1 {
				if n <= m+p {
					list = append(list, shape{n, m, p})
				}
			}
		}
	}
	return list
}

// task is one of that shape, each of whose parts has numbers of its own sort.
func (s shape) task(a, b, d func() api.Bits) gglm.Task {
	return gglm.Task{A: picked(s.n, s.m, a), B: picked(s.n, s.p, b), D: picked(s.n, 1, d)}
}

// one is a task of that shape all of whose numbers are of one sort.
func (s shape) one(pick func() api.Bits) gglm.Task {
	return s.task(pick, pick, pick)
}

// parts are a task's three, in their order.
func parts(t gglm.Task) [3]api.Matrix {
	return [3]api.Matrix{t.A, t.B, t.D}
}

// with is the task with another matrix as part i.
func with(t gglm.Task, i int, m api.Matrix) gglm.Task {
	*[3]*api.Matrix{&t.A, &t.B, &t.D}[i] = m
	return t
}

// eachPart is the task of what part says of each of its parts.
func eachPart(t gglm.Task, part func(m api.Matrix) api.Matrix) gglm.Task {
	for i, m := range parts(t) {
		t = with(t, i, part(m))
	}
	return t
}

// hanging is m with its last row a sum of whole multiples, none of them 0, of some other rows, or noughts of both signs, if there are no others; where numbers are small whole ones nothing is rounded.
func (d *dice) hanging(m api.Matrix) api.Matrix {
	m = clone(m)
	last := m.Rows - 1
	for k := range m.Cols {
		*at(m, last, k) = d.out(noughts())()
	}
	for i := range last {
		if by := float64(d.below(5) - 2); by != 0 {
			for k := range m.Cols {
				*at(m, last, k) = says(float(*at(m, last, k)) + float64(by*float(*at(m, i, k))))
			}
		}
	}
	return m
}

// leaning is m with its last row nearly another one, or nearly 0: each number is off by about 2^-e.
func (d *dice) leaning(m api.Matrix, e int) api.Matrix {
	m = clone(m)
	for k := range m.Cols {
		*at(m, m.Rows-1, k) = says(float(*at(m, 0, k)) + math.Ldexp(float(d.near(-3, 6)()), -e))
	}
	return m
}

func same(a, b api.Matrix) bool {
	return a.Rows == b.Rows && a.Cols == b.Cols && slices.Equal(a.Data, b.Data)
}

// alike tells whether a and b are the same but for the signs of noughts.
func alike(a, b api.Matrix) bool {
	plain := func(b api.Bits) api.Bits {
		if b == api.NegZero {
			return api.Zero
		}
		return b
	}
	return same(each(a, plain), each(b, plain))
}

// empty tells whether m is the zero value.
func empty(m api.Matrix) bool {
	return m.Rows == 0 && m.Cols == 0 && len(m.Data) == 0
}

// show tells a matrix by its bits, a long one by its first numbers alone.
func show(m api.Matrix) string {
	if len(m.Data) > api.MaxDim*api.MaxDim {
		return fmt.Sprintf("%d by %d: %x and more", m.Rows, m.Cols, m.Data[:8])
	}
	return fmt.Sprintf("%d by %d: %x", m.Rows, m.Cols, m.Data)
}

// showTask tells a task's parts, line by line.
func showTask(t gglm.Task) string {
	return fmt.Sprintf("a %s\nb %s\nd %s\n", show(t.A), show(t.B), show(t.D))
}

// wants looks after what is told.
func wants(t *testing.T, task gglm.Task, x, y api.Matrix) {
	t.Helper()
	if e := gglm.Check(task); e != api.OK {
		t.Errorf("Check of\n%s: %v", showTask(task), e)
	}
	if gotX, gotY, e := gglm.Solve(task); !same(gotX, x) || !same(gotY, y) || e != api.OK {
		t.Errorf("Solve of\n%sx %s\ny %s\n%v; wanted\nx %s\ny %s", showTask(task), show(gotX), show(gotY), e, show(x), show(y))
	}
}

// failsSolve looks after Solve's error, and the zero values that are told beside it.
func failsSolve(t *testing.T, task gglm.Task, want api.Errno) {
	t.Helper()
	if x, y, e := gglm.Solve(task); !empty(x) || !empty(y) || e != want {
		t.Errorf("Solve of\n%sx %s\ny %s\n%v; wanted %v", showTask(task), show(x), show(y), e, want)
	}
}

// fails looks after Solve's error where Check has none.
func fails(t *testing.T, task gglm.Task, want api.Errno) {
	t.Helper()
	if e := gglm.Check(task); e != api.OK {
		t.Errorf("Check of\n%s: %v", showTask(task), e)
	}
	failsSolve(t, task, want)
}

// refused looks after Check's error, which is Solve's, too.
func refused(t *testing.T, task gglm.Task, want api.Errno) {
	t.Helper()
	if e := gglm.Check(task); e != want {
		t.Errorf("Check of\n%s%v; wanted %v", showTask(task), e, want)
	}
	failsSolve(t, task, want)
}

// units is a finite number's value in steps of 2^-1074, exactly.
func units(b api.Bits) *big.Int {
	v, _ := new(big.Float).SetMantExp(big.NewFloat(float(b)), 1074).Int(nil)
	return v
}

// isMiddle tells whether a number is 0, or from 2^-30 on, below 2^30.
func isMiddle(b api.Bits) bool {
	f := math.Abs(float(b))
	return f == 0 || f >= math.Ldexp(1, -30) && f < math.Ldexp(1, 30)
}

// ofMiddle tells whether all numbers of a task are so.
func ofMiddle(t gglm.Task) bool {
	for _, m := range parts(t) {
		if slices.ContainsFunc(m.Data, func(b api.Bits) bool { return !isMiddle(b) }) {
			return false
		}
	}
	return true
}

// TestSamplesAreRight guards the other tests.
func TestSamplesAreRight(t *testing.T) {
	for _, b := range notFinite() {
		if isFinite(float(b)) {
			t.Errorf("%x is finite", b)
		}
	}
	d := dice(2100)
	for i, pick := range d.sorts() {
		for range 1000 {
			if b := pick(); !isFinite(float(b)) || i < len(d.middle()) && !isMiddle(b) {
				t.Errorf("sort %d: %v is very great or very small", i, float(b))
			}
		}
	}
	for _, m := range append(wrong(api.One), justWrong(api.One)...) {
		if m.Rows >= 0 && m.Rows <= api.MaxDim && m.Cols >= 0 && m.Cols <= api.MaxDim && m.Rows*m.Cols == len(m.Data) {
			t.Errorf("%d rows, %d columns, %d numbers are right", m.Rows, m.Cols, len(m.Data))
		}
	}
	if units(least).Cmp(big.NewInt(1)) != 0 || units(minus(leastNormal-1)).Cmp(big.NewInt(1-1<<52)) != 0 || units(greatest).BitLen() != 1024+1074 {
		t.Errorf("units of the least number: %v", units(least))
	}
	m := wholes(2, 3, 1, 2, 3, 4, 5, 6)
	if !same(turned(m), wholes(3, 2, 1, 4, 2, 5, 3, 6)) || !alike(of(1, 2, api.Zero, api.One), of(1, 2, api.NegZero, api.One)) || alike(of(1, 1, api.One), of(1, 1, minus(api.One))) {
		t.Errorf("%s, turned: %s", show(m), show(turned(m)))
	}
	of := shape{5, 4, 3}.one(d.near(-30, 60))
	if !ofMiddle(of) || ofMiddle(with(of, 1, filled(5, 3, power(30)))) || ofMiddle(with(of, 2, filled(5, 1, minus(power(-31))))) {
		t.Error("what is of the middle")
	}
	if len(shapes()) != 140 {
		t.Errorf("%d shapes", len(shapes()))
	}
}
