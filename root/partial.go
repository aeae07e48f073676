package root

import (
	"dioptra/api"
	"dioptra/dyadic"
	"dioptra/soft"
	"dioptra/whole"
)

const (
	digits = 53 // that a number has at most

	wholeDigits = 32 // of the root of 64 digits

	// Since one digit must stand behind those that a number has, to tell on which side of halfway a root lies.
	rootDigits = digits + 1
)

// partial is a root as far as it is reckoned: the greatest whole number whose square is at most what was taken of the number's digits, and what that square leaves of them. The rest is at most twice the root, and so neither outgrows 64 bits.
type partial struct {
	root, rest uint64
}

// next is the root with one digit more, for two more of the number's digits.
func (p partial) next(pair uint64) partial {
	root, rest := p.root<<1, p.rest<<2|pair
	more := root<<1 | 1 // what the square grows by, if the digit is 1
	if rest < more {
		return partial{root, rest}
	}
	return partial{root | 1, rest - more}
}

// reckon is the root of n.
func reckon(n uint64) partial {
	p := partial{}
	for i := range wholeDigits {
		p = p.next(n >> (2 * (wholeDigits - 1 - i)) & 3)
	}
	return p
}

// sqrtFinite is the root of a finite number above 0. No call in it fails: the root lies within 2^-537 and 2^512, and so what stands for it is right with two limbs.
func sqrtFinite(a api.Bits) (api.Bits, api.Flags) {
	n, top := sizeOf(a)
	near, _ := dyadic.Make(whole.Of(rootBehind(n)), top/2-rootDigits-1)
	rounded, flags, _ := soft.Round(near)
	return rounded, flags
}

// sizeOf is a finite number above 0 as n times 2^(top - 64), top being even: one of n's first two digits is 1, so that the first digit of its root is.
func sizeOf(a api.Bits) (n uint64, top int) {
	v, _ := soft.Value(a)
	m, _ := whole.Small(v.M)
	odd := dyadic.Top(v) & 1
	return uint64(m) << (2*wholeDigits - whole.Len(v.M) - odd), dyadic.Top(v) + odd
}

// rootBehind is the root of n, as if all its digits stood behind the point, in units of 2^-(rootDigits + 1). Its last digit stands for all that may come from there on: where it is 1, the number is rounded as the root is, being neither a number itself nor halfway between two.
func rootBehind(n uint64) int64 {
	p := reckon(n)
	for range rootDigits - wholeDigits {
		p = p.next(0)
	}
	root := int64(p.root) << 1
	if p.rest > 0 {
		root++
	}
	return root
}
