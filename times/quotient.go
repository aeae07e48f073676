package times

import (
	"dioptra/api"
	"dioptra/dyadic"
	"dioptra/soft"
	"dioptra/whole"
)

const (
	digits = 53 // that a number has at most

	// Since the first digit of a quotient may be 0, and one must stand behind those that a number has, to tell halfway.
	quotientDigits = digits + 2
)

// divFinite divides two finite numbers that are no noughts. No call in it fails: their sizes lie within 2^-1074 and 2^1024, and so what stands for their quotient is right with two limbs.
func divFinite(a, b api.Bits) (api.Bits, api.Flags) {
	x, xTop := sizeOf(a)
	y, yTop := sizeOf(b)
	near, _ := dyadic.Make(whole.Of(quotient(x, y)), xTop-yTop-quotientDigits)
	rounded, flags, _ := soft.Round(near)
	return signed(rounded, a, b), flags
}

// sizeOf is a finite number that is no nought, without its sign: its digits, of which the first is 1, and the least k with the number below 2^k.
func sizeOf(b api.Bits) (size int64, top int) {
	v, _ := soft.Value(b)
	v.M.Neg = false
	m, _ := whole.Shift(v.M, digits-whole.Len(v.M))
	size, _ = whole.Small(m)
	return size, dyadic.Top(v)
}

// quotient is x by y, x being below twice y, in units of 2^-quotientDigits. Its last digit stands for all that may come from there on: where it is 1, the number is rounded as the quotient is, being neither a number itself nor halfway between two.
func quotient(x, y int64) int64 {
	q := int64(0)
	for range quotientDigits {
		q <<= 1
		if x >= y {
			q++
			x -= y
		}
		x <<= 1
	}
	q <<= 1
	if x > 0 {
		q++
	}
	return q
}
