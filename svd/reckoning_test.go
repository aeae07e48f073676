package svd_test

import (
	"math"
	"slices"
	"testing"

	"dioptra/api"
	"dioptra/compare"
	"dioptra/givens"
	"dioptra/matrix"
	"dioptra/plain"
	"dioptra/soft"
	"dioptra/svd"
	"dioptra/vector"
)

// rootHalf is One by the root of 2.
const rootHalf = api.Bits(0x3fe6a09e667f3bcc)

// wantsGos looks after what the machine's own numbers say, and tells how they went.
func wantsGos(t *testing.T, a api.Matrix) course {
	t.Helper()
	want, seen := gosUpright(a)
	if got := ask(a); !got.same(want) {
		t.Errorf("Upright of %s: %swanted %s", show(a), got.show(), want.show())
	}
	return seen
}

// wantsTurned looks after whether a pair is turned at all: then there is a number in v beside noughts and ones.
func wantsTurned(t *testing.T, a api.Matrix, want bool) {
	t.Helper()
	seen := wantsGos(t, a)
	_, v, _, e := svd.Upright(a)
	got := slices.ContainsFunc(v.Data, func(b api.Bits) bool { return b != api.Zero && b != api.One })
	if got != want || (seen.turned != [2]int{}) != want || e != api.OK {
		t.Errorf("Upright of %s: %v, v %s; turned: %v", show(a), e, show(v), got)
	}
}

// normOf is Norm of column k.
func normOf(t *testing.T, m api.Matrix, k int) api.Bits {
	t.Helper()
	n, e := vector.Norm(chosen(m, k).Data)
	if e != api.OK {
		t.Errorf("Norm: %v", e)
	}
	return n
}

// TestP19_1GosOwn goes over all sizes with numbers of all sorts, of very unlike sizes, the greatest and the least among them.
func TestP19_1GosOwn(t *testing.T) {
	t.Parallel()
	d := dice(1901)
	for _, s := range sizes() {
		for _, pick := range d.sorts() {
			for range 2 {
				wantsGos(t, picked(s[0], s[1], pick))
			}
		}
	}
}

// TestP19_1Noughts: columns of noughts of either sign, one, two, all of them.
func TestP19_1Noughts(t *testing.T) {
	t.Parallel()
	d := dice(1902)
	for _, s := range sizes() {
		for _, none := range []api.Matrix{filled(s[0], s[1], api.Zero), filled(s[0], s[1], api.NegZero), picked(s[0], s[1], d.out(noughts()))} {
			wantsTurned(t, none, false)
			wants(t, none, none, eye(s[1]), filled(s[1], 1, api.Zero).Data...) // each nought keeps its sign, a size has none
		}
		for _, pick := range []func() api.Bits{d.near(-3, 6), d.small(3), d.out(finites())} {
			for k := range s[1] {
				a := d.noughtColumn(picked(s[0], s[1], pick), k)
				wantsGos(t, a)
				wantsGos(t, d.noughtColumn(a, d.below(s[1])))
			}
		}
	}
}

// TestP19_1Leaning: columns that are multiples of one another, or nearly so, or of very unlike sizes, or of unlike sorts.
func TestP19_1Leaning(t *testing.T) {
	t.Parallel()
	d := dice(1903)
	for _, s := range sizes() {
		for _, pick := range []func() api.Bits{d.small(9), d.near(-3, 6), d.near(-20, 40), d.near(-100, 200), d.tiny(), d.near(-1022, 4), d.near(1010, 6)} {
			wantsGos(t, d.multiples(s[0], s[1], pick))
			wantsGos(t, d.leaning(s[0], s[1], 1+d.below(50), pick))
		}
		for _, pick := range []func() api.Bits{d.small(9), d.near(-3, 6), d.near(-20, 40)} {
			wantsGos(t, d.steep(picked(s[0], s[1], pick), 1+d.below(60)))
			wantsGos(t, d.steep(d.leaning(s[0], s[1], 1+d.below(50), pick), 1+d.below(60)))
		}
		wantsGos(t, d.mixed(s[0], s[1]))
	}
}

// TestP19_1Courses guards the tests: such matrices go all ways that there are.
func TestP19_1Courses(t *testing.T) {
	t.Parallel()
	d := dice(1904)
	var all course
	count := map[string]int{}
	tell := func(what string, is bool) {
		if is {
			count[what]++
		}
	}
	for _, s := range sizes() {
		for _, pick := range []func() api.Bits{d.small(2), d.sparse(d.small(1)), d.near(1023, 1), d.finite(), d.tiniest(3), d.tiniest(9), d.sparse(d.tiniest(20))} {
			for _, a := range []api.Matrix{picked(s[0], s[1], pick), d.multiples(s[0], s[1], d.near(-3, 6)), d.steep(picked(s[0], s[1], d.near(-3, 6)), 40)} {
				seen := wantsGos(t, a)
				for i := range all.let {
					all.let[i] += seen.let[i]
				}
				for sign := range 2 {
					all.turned[sign] += seen.turned[sign]
					all.level[sign] += seen.level[sign]
				}
				tell("alike", seen.alike > 0)
				tell("moved", seen.moved)
				tell("as it was", !seen.moved)
				tell("rounded by -k", seen.rounded[0])
				tell("rounded by k", seen.rounded[1])
				tell("failed", seen.failed)
				tell("many rounds", seen.rounds > 5)
				tell("one round", seen.rounds == 1)
			}
		}
	}
	for _, n := range append(append(all.let[:], all.turned[:]...), all.level[:]...) {
		if n < 20 {
			t.Errorf("what was seen: %+v", all)
		}
	}
	for _, what := range []string{"alike", "moved", "as it was", "rounded by -k", "rounded by k", "failed", "many rounds", "one round"} {
		if count[what] < 5 {
			t.Errorf("%s: %d", what, count[what])
		}
	}
}

// TestP19_1ByHand: which columns, which signs, and in which order.
func TestP19_1ByHand(t *testing.T) {
	c := rootHalf
	wants(t, wholes(2, 2, 3, 0, 0, 4), wholes(2, 2, 0, 3, 4, 0), wholes(2, 2, 0, 1, 1, 0), four, three)
	for n := range api.MaxDim + 1 {
		wants(t, of(n, 0), of(n, 0), of(0, 0))
		wants(t, of(0, n), of(0, n), eye(n), filled(n, 1, api.Zero).Data...)
	}
	wants(t, wholes(1, 1, -3), wholes(1, 1, -3), eye(1), three)
	wants(t, of(1, 1, api.NegZero), of(1, 1, api.NegZero), eye(1), api.Zero)
	wants(t, wholes(2, 1, -3, 4), wholes(2, 1, -3, 4), eye(1), says(5))
	wants(t, wholes(1, 3, 0, -3, 0), wholes(1, 3, -3, 0, 0), wholes(3, 3, 0, 1, 0, 1, 0, 0, 0, 0, 1), three, api.Zero, api.Zero)
	great, small := says(3*float(c)), minus(c) // of 1 and 2: c and 2 c together, and c less 2 c
	wants(t, wholes(2, 2, 1, 2, 2, 1), of(2, 2, great, small, great, c), of(2, 2, c, c, c, minus(c)), says(gosNorm([]float64{float(great), float(great)})), says(gosNorm([]float64{float(c), float(c)})))
	wants(t, wholes(2, 2, 1, -2, 2, -1), of(2, 2, minus(great), small, minus(great), c), of(2, 2, minus(c), c, c, c), says(gosNorm([]float64{float(great), float(great)})), says(gosNorm([]float64{float(c), float(c)})))
}

// TestP19_1AlikeByHand: two columns that are alike, or one the other's opposite: one of them becomes noughts, the other one as great as both together.
func TestP19_1AlikeByHand(t *testing.T) {
	c := rootHalf
	both := says(2 * float(c))
	size := says(gosNorm([]float64{float(both), float(both)}))
	wants(t, wholes(2, 2, 1, 1, 1, 1), of(2, 2, both, api.Zero, both, api.Zero), of(2, 2, c, c, c, minus(c)), size, api.Zero)
	wants(t, wholes(2, 2, 1, -1, 1, -1), of(2, 2, minus(both), api.Zero, minus(both), api.Zero), of(2, 2, minus(c), c, c, c), size, api.Zero)
	wants(t, wholes(2, 2, -1, 1, -1, 1), of(2, 2, both, api.Zero, both, api.Zero), of(2, 2, minus(c), c, c, c), size, api.Zero)
	d := dice(1905)
	for _, s := range sizes() {
		for p := range s[1] {
			for q := range p {
				a := picked(s[0], s[1], d.near(-3, 6))
				b := clone(a)
				for i := range s[0] {
					*at(a, i, p), *at(b, i, p) = *at(a, i, q), minus(*at(b, i, q))
				}
				wantsGos(t, a)
				wantsGos(t, b)
			}
		}
	}
}

// TestP19_1Level: two columns of the same square, for which z is a nought of g's sign, wherever they stand.
func TestP19_1Level(t *testing.T) {
	level := [2]int{}
	for _, s := range sizes() {
		for p := range s[1] {
			for q := range p {
				for _, pair := range [][2]api.Bits{{api.One, two}, {two, three}, {three, three}, {api.One + 1, half}, {power(-50), power(-20)}, {power(1000), power(990)}, {2, 3}} {
					for sign := range 4 {
						a := filled(s[0], s[1], noughts()[sign&1])
						if s[0] < 2 {
							continue
						}
						*at(a, 0, q), *at(a, s[0]-1, q) = pair[0], pair[1]
						*at(a, 0, p), *at(a, s[0]-1, p) = pair[1]^noughts()[sign>>1], pair[0]^noughts()[sign>>1]
						seen := wantsGos(t, a)
						level[0] += seen.level[0]
						level[1] += seen.level[1]
						if sign>>1 == 0 && seen.level != [2]int{1, 0} || sign>>1 == 1 && seen.level != [2]int{0, 1} {
							t.Errorf("%s: %+v", show(a), seen)
						}
					}
				}
			}
		}
	}
	if level[0] < 100 || level[1] < 100 {
		t.Errorf("z was Zero, and NegZero: %v", level)
	}
}

// TestP19_1UprightFromTheStart: nothing is turned; noughts of either sign give inner products that are noughts.
func TestP19_1UprightFromTheStart(t *testing.T) {
	d := dice(1906)
	for _, s := range sizes() {
		for range 8 {
			a := picked(s[0], s[1], d.out(noughts()))
			for j := range min(s[0], s[1]) {
				*at(a, j, j) = d.near(-3, 6)()
			}
			wantsTurned(t, a, false)
			seen := wantsGos(t, a)
			if seen.rounds != 1 {
				t.Errorf("%s: %d rounds", show(a), seen.rounds)
			}
		}
	}
	wantsTurned(t, wholes(2, 2, 1, 1, 1, -1), false)
	wantsTurned(t, wholes(2, 2, -1, 1, 1, 1), false)
	wantsTurned(t, wholes(4, 4, 1, 1, 1, 1, 1, -1, 1, -1, 1, 1, -1, -1, 1, -1, -1, 1), false)
	wantsTurned(t, wholes(3, 2, 1, 2, 2, 1, 2, -2), false)
}

// TestP19_1Low: of two columns of one row, which lean on one another, the lesser one's norm is just low, the next number above it and the one below it; it stands before the greater one and behind it, among columns of noughts.
func TestP19_1Low(t *testing.T) {
	for _, first := range []api.Bits{api.One, api.One + 1, two - 1, three, power(-30) + 5, power(400), power(-900)} {
		bound := says(math.Ldexp(float(first), -44))
		for by, turned := range map[int]bool{-1: false, 0: false, 1: true} {
			for _, s := range sizes() {
				for p := range s[1] {
					for q := range s[1] {
						if p == q || s[0] == 0 {
							continue
						}
						a := filled(s[0], s[1], noughts()[p&1])
						row := (p + q) % s[0]
						*at(a, row, p), *at(a, row, q) = first^noughts()[q&1], bound+api.Bits(by)
						wantsTurned(t, a, turned)
						if y := normOf(t, a, q); y != bound+api.Bits(by) {
							t.Errorf("%s: the norm is %x, not %x", show(a), y, bound+api.Bits(by))
						}
					}
				}
			}
		}
	}
}

// TestP19_1LowOfMany: a column of more numbers has just low as its norm, or is just beside it.
func TestP19_1LowOfMany(t *testing.T) {
	sides := func(by api.Bits) api.Matrix { // 3, 4, and the same times 2^-44, the greater one off by so much
		return of(2, 2, three, says(math.Ldexp(3, -44)), four, says(math.Ldexp(4, -44))+by)
	}
	low := says(math.Ldexp(5, -44))
	at, above := sides(0), sides(1)
	if normOf(t, at, 1) != low || normOf(t, above, 1) != low+1 {
		t.Errorf("norms are %x and %x", normOf(t, at, 1), normOf(t, above, 1))
	}
	wantsTurned(t, at, false)
	wantsTurned(t, above, true)
	wantsTurned(t, chosen(at, 1, 0), false)
	wantsTurned(t, chosen(above, 1, 0), true)
	wantsTurned(t, shifted(at, -900), false)
	wantsTurned(t, shifted(above, -900), true)
}

// TestP19_1LowRowByRow: the norm of all numbers is that of the rows behind one another; of the columns behind one another it is another one, which would be seen.
func TestP19_1LowRowByRow(t *testing.T) {
	d := dice(1907)
	seen := [2]int{}
	for seen[0] < 20 || seen[1] < 20 {
		a := picked(3, 3, d.near(0, 1))
		a.Data[0] = power(0) | a.Data[0]&^api.NegZero&(1<<52-1)
		for i := range 3 {
			*at(a, i, 2) = api.Zero
		}
		list := columnsOf(a)
		rows, cols := gosNorm(list.byRows(3)), gosNorm(slices.Concat(list...))
		if rows == cols {
			continue
		}
		less := 0
		if rows < cols {
			less = 1
		}
		seen[less]++
		*at(a, 0, 2) = says(math.Ldexp(max(rows, cols), -44)) // so it is low by rows, or by columns
		if x := gosNorm(columnsOf(a).byRows(3)); x != rows {
			t.Errorf("%s: norm %v; wanted %v", show(a), x, rows)
		}
		wantsGos(t, a)
		_, v, _, e := svd.Upright(a)
		last := v.Data[6:] // what has come of the third column
		if turned := slices.ContainsFunc(last, func(b api.Bits) bool { return b&^api.NegZero != api.Zero && b != api.One }); turned != (less == 1) || e != api.OK {
			t.Errorf("%s: %v, v %s", show(a), e, show(v))
		}
	}
}

// TestP19_1Bound: an inner product that is just the bound, the next number above it and the one below it, of either sign.
func TestP19_1Bound(t *testing.T) {
	for _, x := range []api.Bits{api.One, two, half, power(-20), power(30)} {
		for _, y := range []api.Bits{api.One, three, two - 1, api.One + 1, power(20) + 7} {
			for by, turned := range map[int]bool{-1: false, 0: false, 1: true} {
				for _, sign := range noughts() {
					lean := says(math.Ldexp(float(y), -44)) + api.Bits(by)
					a := of(2, 2, x, lean^sign, noughts()[by&1], y)
					if normOf(t, a, 0) != x || normOf(t, a, 1) != y {
						t.Errorf("%s: norms are %x and %x", show(a), normOf(t, a, 0), normOf(t, a, 1))
					}
					wantsTurned(t, a, turned)
					wantsTurned(t, chosen(a, 1, 0), turned)
					wantsTurned(t, shifted(a, -900), turned)
					wantsTurned(t, shifted(a, 900), turned)
				}
			}
		}
	}
}

// TestP19_1GreatestAngle: the greatest z that there is here, or nearly so, since both norms are above low: its square is still far from what is not finite.
func TestP19_1GreatestAngle(t *testing.T) {
	small, lean := power(-43), power(-43)
	a := of(2, 2, api.One, says(float(small)*float(lean)), api.Zero, small)
	if seen := wantsGos(t, a); seen.z != math.Ldexp(1, 85) || seen.turned != [2]int{0, 1} {
		t.Errorf("%s: %+v", show(a), seen)
	}
	if seen := wantsGos(t, chosen(a, 1, 0)); seen.z != math.Ldexp(1, 85) || seen.turned != [2]int{1, 0} {
		t.Errorf("%s: %+v", show(a), seen)
	}
	wants(t, a, of(2, 2, api.One, api.Zero, power(-43-86), small), of(2, 2, api.One, minus(power(-86)), power(-86), api.One), api.One, small)
}

// TestP19_1TurnOf: c and s are what the machine's own numbers say, of columns as no matrix has them here, too: z's square, or z itself, may not be finite.
func TestP19_1TurnOf(t *testing.T) {
	d := dice(1908)
	count := map[string]int{}
	for _, pick := range append(d.sorts(), d.near(300, 300), d.near(-600, 300)) {
		for n := range api.MaxDim + 1 {
			for range 20 {
				p, q := picked(n, 1, pick), picked(n, 1, pick)
				g, _ := vector.Dot(p.Data, q.Data)
				for _, g := range []api.Bits{g, pick(), d.near(-300, 100)(), d.near(-3, 6)(), least, minus(least)} {
					z, c, s := gosAngle(columnsOf(p)[0], columnsOf(q)[0], float(g))
					if gotC, gotS := svd.TurnOf(p.Data, q.Data, g); gotC != says(c) || gotS != says(s) {
						t.Errorf("of %s, %s and %x: %x, %x; wanted %x, %x", show(p), show(q), g, gotC, gotS, says(c), says(s))
					}
					switch {
					case math.IsNaN(z):
						count["none"]++
					case math.IsInf(z, 0):
						count["without an end"]++
					case math.IsInf(z*z, 0):
						count["square"]++
						if says(c) != api.One || says(s) != says(math.Copysign(0, z)) {
							t.Errorf("of z %v: c %v, s %v", z, c, s)
						}
					case z == 0:
						count["nought"]++
					default:
						count["other"]++
					}
				}
			}
		}
	}
	for _, what := range []string{"none", "without an end", "square", "nought", "other"} {
		if count[what] < 20 {
			t.Errorf("of which sort z was: %v", count)
		}
	}
}

// TestP1ByLayersBelow: what is told is what the calls of layers 8 to 12 give, one after another, written anew.
func TestP1ByLayersBelow(t *testing.T) {
	t.Parallel()
	d := dice(1909)
	for _, s := range sizes() {
		for _, pick := range append(d.middle(), d.tiniest(5), d.near(1018, 4)) {
			a := picked(s[0], s[1], pick)
			want := byLayers(a)
			if got := ask(a); !got.same(want) {
				t.Errorf("Upright of %s: %swanted %s", show(a), got.show(), want.show())
			}
		}
	}
}

// byLayers is what is told of a matrix that may be asked, by the calls of the layers below alone.
func byLayers(a api.Matrix) answer {
	k := compare.Exp(vector.Biggest(a.Data))
	w := clone(a)
	for i := range w.Data {
		w.Data[i], _ = compare.Scale(w.Data[i], -k)
	}
	v, _ := matrix.Eye(a.Cols)
	f, _ := vector.Norm(w.Data)
	low, _ := compare.Scale(f, -44)
	for turns := 1; turns > 0; {
		turns = 0
		for p := range a.Cols {
			for q := p + 1; q < a.Cols; q++ {
				one, other := chosen(w, p).Data, chosen(w, q).Data
				x, _ := vector.Norm(one)
				y, _ := vector.Norm(other)
				g, _ := vector.Dot(one, other)
				bound, _ := compare.Scale(plain.Mul(x, y), -44)
				if !compare.Less(low, x) || !compare.Less(low, y) || !compare.Less(bound, compare.Abs(g)) {
					continue
				}
				xx, _ := vector.Dot(one, one)
				yy, _ := vector.Dot(other, other)
				z := plain.Div(plain.Sub(yy, xx), plain.Add(g, g))
				t := plain.Div(api.One, plain.Add(compare.Abs(z), plain.Sqrt(plain.Add(api.One, plain.Mul(z, z)))))
				t |= z & api.NegZero
				c := plain.Div(api.One, plain.Sqrt(plain.Add(api.One, plain.Mul(t, t))))
				w, _ = givens.Cols(w, p, q, c, soft.Minus(plain.Mul(c, t)))
				v, _ = givens.Cols(v, p, q, c, soft.Minus(plain.Mul(c, t)))
				turns++
			}
		}
	}
	var places []int
	for range a.Cols { // each time the first one of the greatest that are left
		best := -1
		for k := range a.Cols {
			if !slices.Contains(places, k) && (best < 0 || compare.Less(normed(w, best), normed(w, k))) {
				best = k
			}
		}
		places = append(places, best)
	}
	told := answer{w: chosen(w, places...), v: chosen(v, places...)}
	for i := range told.w.Data {
		told.w.Data[i], _ = compare.Scale(told.w.Data[i], k)
	}
	if !vector.Finite(told.w.Data) {
		return answer{err: api.ErrRange}
	}
	for k := range a.Cols {
		told.sizes = append(told.sizes, normed(told.w, k))
	}
	return told
}

// normed is Norm of column k.
func normed(m api.Matrix, k int) api.Bits {
	n, _ := vector.Norm(chosen(m, k).Data)
	return n
}
