package svd_test

import (
	"testing"

	"dioptra/api"
	"dioptra/svd"
)

// within is what is told with so many rounds at most.
func within(a api.Matrix, rounds int) answer {
	w, v, sizes, e := svd.UprightWithin(a, rounds)
	return answer{w, v, sizes, e}
}

// slowest is of all matrices that a search has found the one with the most rounds.
func slowest() api.Matrix {
	return of(6, 6,
		0xbf05d5d4c3f6d740, 0x3f2e7565fe1d6191, 0xbe13d25462a3565e, 0x3e25d187beae38f8, 0x3ee3191a7a9f77c5, 0x3e94e53ca5c97828,
		0x44059b6ebb12a1e0, 0xc3f586801db47246, 0x43863c45bacb1bc3, 0x44079c373d4b1de5, 0xc3ab7746f0e3aba5, 0xc3fd33c4ca681fc0,
		0x4474f6b2935b2b7b, 0x454d871d283b4f77, 0x455cf7f844451168, 0x44b5d63d40b7becb, 0x45731d39ade51e0f, 0xc5549605d44591f4,
		0xc5116cb520df0d50, 0xc557a135289990cb, 0x456cd85d42fafff7, 0xc54307a2a2811472, 0xc56363d0668fed96, 0x45729fe26f0a850c,
		0x42d63348210ecfb2, 0xc2a4f8eb73521c22, 0x42ccc50abe44a2a0, 0x3ddab58485416c67, 0x4224b00892c23ef3, 0xc2c88ec92ffbdb94,
		0x430e6a1b7a44aa8a, 0xc40f757ed6389c7b, 0xc2e3d3fd03f3960b, 0xc3077a210b31d29d, 0xc3c48cc14e62937d, 0x4296762a0fd759cf)
}

// wantsRounds looks after how many rounds there must be: with one fewer there is no end, and nothing is told beside that; with more all is as with as many.
func wantsRounds(t *testing.T, a api.Matrix, rounds int) {
	t.Helper()
	want := ask(a)
	for n := range rounds {
		if got := within(a, n); !got.same(answer{err: api.ErrTurns}) {
			t.Errorf("of %s, within %d of %d rounds: %s", show(a), n, rounds, got.show())
		}
	}
	for _, n := range []int{rounds, rounds + 1, api.MaxTurns} {
		if got := within(a, n); !got.same(want) {
			t.Errorf("of %s, within %d of %d rounds: %swanted %s", show(a), n, rounds, got.show(), want.show())
		}
	}
}

// TestP19_1NoEnd: no matrix was found that has no end within MaxTurns rounds; so it is fewer rounds that are asked for here. The last round, in which nothing is turned, counts as well.
func TestP19_1NoEnd(t *testing.T) {
	t.Parallel()
	d := dice(1930)
	most := 0
	for _, s := range sizes() {
		for _, pick := range []func() api.Bits{d.small(1), d.near(-3, 6), d.out(noughts()), d.finite()} {
			a := picked(s[0], s[1], pick)
			_, seen := gosUpright(a)
			wantsRounds(t, a, seen.rounds)
			most = max(most, seen.rounds)
		}
	}
	if most < 6 {
		t.Errorf("at most %d rounds", most)
	}
}

// TestP19_1NoEndFirst: where there is no end, and a number would not be finite, that there is no end comes first.
func TestP19_1NoEndFirst(t *testing.T) {
	for n := 2; n <= api.MaxDim; n++ {
		a := filled(n, n, greatest)
		if got := ask(a); got.err != api.ErrRange {
			t.Errorf("Upright of %s: %s", show(a), got.show())
		}
		_, seen := gosUpright(a)
		wantsRounds(t, a, seen.rounds)
	}
}

// TestP19_1ManyRounds: of all matrices found the one with the most rounds has its end far within MaxTurns of them.
func TestP19_1ManyRounds(t *testing.T) {
	seen := wantsGos(t, slowest())
	if seen.rounds != 11 {
		t.Errorf("%d rounds", seen.rounds)
	}
	wantsRounds(t, slowest(), seen.rounds)
}
