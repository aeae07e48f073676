package root_test

import (
	"math"
	"math/big"
	"testing"

	"dioptra/root"
)

func wantsWhole(t *testing.T, n, want uint64, is bool) {
	t.Helper()
	if got, ok := root.Whole(n); got != want || ok != is {
		t.Errorf("whole root of %d: %d, %v; wanted %d, %v", n, got, ok, want, is)
	}
}

// wantsLibrarys holds the root of n against the library's own.
func wantsLibrarys(t *testing.T, n uint64) {
	t.Helper()
	want := new(big.Int).SetUint64(n)
	r := want.Sqrt(want).Uint64()
	wantsWhole(t, n, r, r*r == n)
}

func TestP7_1Small(t *testing.T) {
	next := uint64(0)
	for n := range uint64(100000) {
		if (next+1)*(next+1) <= n {
			next++
		}
		wantsWhole(t, n, next, next*next == n)
	}
}

func TestP7_1AtTheEdges(t *testing.T) {
	for _, c := range []struct {
		n, want uint64
		is      bool
	}{
		{0, 0, true}, {1, 1, true}, {2, 1, false}, {3, 1, false}, {4, 2, true}, {5, 2, false}, {8, 2, false}, {9, 3, true}, {10, 3, false}, {15, 3, false}, {16, 4, true},
		{1<<32 - 1, 1<<16 - 1, false}, {1 << 32, 1 << 16, true}, {1<<32 + 1, 1 << 16, false},
		{1<<62 - 1, 1<<31 - 1, false}, {1 << 62, 1 << 31, true}, {1<<62 + 1, 1 << 31, false},
		{math.MaxInt64, 3037000499, false}, {1 << 63, 3037000499, false}, {3037000500 * 3037000500, 3037000500, true}, {3037000500*3037000500 - 1, 3037000499, false},
		{(1<<32 - 1) * (1<<32 - 1), 1<<32 - 1, true}, {(1<<32-1)*(1<<32-1) - 1, 1<<32 - 2, false}, {(1<<32-1)*(1<<32-1) + 1, 1<<32 - 1, false},
		{math.MaxUint64 - 1, 1<<32 - 1, false}, {math.MaxUint64, 1<<32 - 1, false},
	} {
		wantsWhole(t, c.n, c.want, c.is)
	}
}

// TestP7_1Squares: a square's root is told, and of the numbers next to it the one below has a lesser root.
func TestP7_1Squares(t *testing.T) {
	d := dice(74)
	for digits := 2; digits <= 32; digits++ {
		for range 400 {
			r := 1<<(digits-1) | d.roll()>>(65-digits)
			wantsWhole(t, r*r-1, r-1, false)
			wantsWhole(t, r*r, r, true)
			wantsWhole(t, r*r+1, r, false)
			wantsWhole(t, r*r+2*r, r, false) // the last one before the next square
		}
	}
}

func TestP7_1OfAnyBits(t *testing.T) {
	d := dice(75)
	for i := range 20000 {
		wantsLibrarys(t, d.roll()>>(i%64))
	}
	for step := range uint64(1000) {
		wantsLibrarys(t, math.MaxUint64-step)
		wantsLibrarys(t, 1<<63+step)
		wantsLibrarys(t, 1<<63-step)
	}
}

func TestP7_1PowersOfTwo(t *testing.T) {
	for e := range 64 {
		wantsLibrarys(t, 1<<e-1)
		wantsLibrarys(t, 1<<e)
		wantsLibrarys(t, 1<<e+1)
	}
}
