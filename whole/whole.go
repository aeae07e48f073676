// Package whole is layer 1: whole numbers of any size, up to api.MaxLimbs limbs. See shared/doc/01-whole.md.
package whole

import (
	"math/bits"

	"dioptra/api"
)

// Check tells whether a is right: ErrForm, if it is not.
func Check(a api.Whole) api.Errno {
	n := len(a.Limbs)
	switch {
	case n > api.MaxLimbs:
		return api.ErrForm
	case n == 0 && a.Neg:
		return api.ErrForm
	case n > 0 && a.Limbs[n-1] == 0:
		return api.ErrForm
	}
	return api.OK
}

// Of is the right number of n.
func Of(n int64) api.Whole {
	size := uint64(n)
	if n < 0 {
		size = -size // on unsigned bits, since -2^63 has no opposite among those of n's type
	}
	limbs := []uint32{uint32(size), uint32(size >> limbBits)}
	return api.Whole{Neg: n < 0, Limbs: trim(limbs)}
}

// Add is a plus b.
func Add(a, b api.Whole) (api.Whole, api.Errno) {
	if e := checkBoth(a, b); e != api.OK {
		return api.Whole{}, e
	}
	return addSigned(a, b)
}

// Sub is a less b.
func Sub(a, b api.Whole) (api.Whole, api.Errno) {
	if e := checkBoth(a, b); e != api.OK {
		return api.Whole{}, e
	}
	b.Neg = !b.Neg // a 0 that is Neg does no harm here: addSigned goes by the greater size
	return addSigned(a, b)
}

// Mul is a times b.
func Mul(a, b api.Whole) (api.Whole, api.Errno) {
	if e := checkBoth(a, b); e != api.OK {
		return api.Whole{}, e
	}
	if len(a.Limbs)+len(b.Limbs)-1 > api.MaxLimbs { // then neither is 0, and no such product has fewer limbs
		return api.Whole{}, api.ErrRange
	}
	return fit(a.Neg != b.Neg, mulLimbs(a.Limbs, b.Limbs))
}

// Shift is a times 2^n, without what is behind the point.
func Shift(a api.Whole, n int) (api.Whole, api.Errno) {
	if e := Check(a); e != api.OK {
		return api.Whole{}, e
	}
	switch {
	case n < -api.MaxShift || n > api.MaxShift:
		return api.Whole{}, api.ErrRange
	case n < 0:
		return fit(a.Neg, shiftDown(a.Limbs, -n))
	}
	return fit(a.Neg, shiftUp(a.Limbs, n))
}

// Compare is -1, 0 or 1, as a is less than b, as much or more.
func Compare(a, b api.Whole) (int, api.Errno) {
	if e := checkBoth(a, b); e != api.OK {
		return 0, e
	}
	switch {
	case a.Neg && b.Neg:
		return compareLimbs(b.Limbs, a.Limbs), api.OK
	case a.Neg:
		return -1, api.OK
	case b.Neg:
		return 1, api.OK
	}
	return compareLimbs(a.Limbs, b.Limbs), api.OK
}

// Len is how many bits a's value has, without its sign.
func Len(a api.Whole) int {
	n := len(a.Limbs)
	if n == 0 {
		return 0
	}
	return (n-1)*limbBits + bits.Len32(a.Limbs[n-1])
}

// Small is a's value: ErrRange, if 64 bits do not hold it.
func Small(a api.Whole) (int64, api.Errno) {
	if e := Check(a); e != api.OK {
		return 0, e
	}
	if len(a.Limbs) > 2 {
		return 0, api.ErrRange
	}
	size := uint64(0)
	for i := range len(a.Limbs) {
		size |= uint64(a.Limbs[i]) << (i * limbBits)
	}
	const half = uint64(1) << 63
	switch {
	case a.Neg && size <= half: // -2^63 is there, 2^63 is not
		return int64(-size), api.OK
	case !a.Neg && size < half:
		return int64(size), api.OK
	}
	return 0, api.ErrRange
}

// checkBoth is the error of a number of the two that is not right.
func checkBoth(a, b api.Whole) api.Errno {
	if e := Check(a); e != api.OK {
		return e
	}
	return Check(b)
}

// addSigned adds two numbers, of which a 0 may be Neg.
func addSigned(a, b api.Whole) (api.Whole, api.Errno) {
	switch {
	case a.Neg == b.Neg:
		return fit(a.Neg, addLimbs(a.Limbs, b.Limbs))
	case compareLimbs(a.Limbs, b.Limbs) < 0:
		return fit(b.Neg, subLimbs(b.Limbs, a.Limbs))
	}
	return fit(a.Neg, subLimbs(a.Limbs, b.Limbs))
}

// fit makes limbs a right number, which it keeps: ErrRange, if there are too many.
func fit(neg bool, limbs []uint32) (api.Whole, api.Errno) {
	limbs = trim(limbs)
	switch {
	case len(limbs) == 0:
		return api.Whole{}, api.OK
	case len(limbs) > api.MaxLimbs:
		return api.Whole{}, api.ErrRange
	}
	return api.Whole{Neg: neg, Limbs: limbs}, api.OK
}
