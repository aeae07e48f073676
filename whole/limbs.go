package whole

import (
	"cmp"
)

// Sizes without a sign: limbs, the lowest one first. Each of these functions answers new memory, but for trim.

const limbBits = 32

// trim cuts limbs that are 0 off the top; of none that is left it is nil.
func trim(limbs []uint32) []uint32 {
	for i := range len(limbs) {
		n := len(limbs) - i
		if limbs[n-1] != 0 {
			return limbs[:n]
		}
	}
	return nil
}

// compareLimbs orders two sizes, neither with a 0 on top.
func compareLimbs(a, b []uint32) int {
	if len(a) != len(b) {
		return cmp.Compare(len(a), len(b))
	}
	for i := range len(a) {
		top := len(a) - 1 - i
		if a[top] != b[top] {
			return cmp.Compare(a[top], b[top])
		}
	}
	return 0
}

// limbAt is the i-th limb, 0 beyond the last one.
func limbAt(limbs []uint32, i int) uint64 {
	if i < len(limbs) {
		return uint64(limbs[i])
	}
	return 0
}

// addLimbs is a plus b.
func addLimbs(a, b []uint32) []uint32 {
	sum := make([]uint32, max(len(a), len(b))+1)
	carry := uint64(0)
	for i := range len(sum) {
		carry += limbAt(a, i) + limbAt(b, i)
		sum[i] = uint32(carry)
		carry >>= limbBits
	}
	return sum
}

// subLimbs is a less b, which is no more than a.
func subLimbs(a, b []uint32) []uint32 {
	rest := make([]uint32, len(a))
	borrow := uint64(0)
	for i := range len(a) {
		d := uint64(a[i]) - limbAt(b, i) - borrow
		rest[i] = uint32(d)
		borrow = d >> 63 // below 0 it wraps round, and then its topmost bit is 1
	}
	return rest
}

// mulLimbs is a times b.
func mulLimbs(a, b []uint32) []uint32 {
	product := make([]uint32, len(a)+len(b))
	for i := range len(a) {
		carry := uint64(0)
		for k := range len(b) { // no wrap-round: (2^32-1)^2 and twice 2^32-1 are 2^64-1
			carry += uint64(a[i])*uint64(b[k]) + uint64(product[i+k])
			product[i+k] = uint32(carry)
			carry >>= limbBits
		}
		product[i+len(b)] = uint32(carry)
	}
	return product
}

// shiftUp is a times 2^n.
func shiftUp(a []uint32, n int) []uint32 {
	limbs, part := n/limbBits, n%limbBits
	shifted := make([]uint32, len(a)+limbs+1)
	for i := range len(a) {
		wide := uint64(a[i]) << part
		shifted[i+limbs] |= uint32(wide)
		shifted[i+limbs+1] = uint32(wide >> limbBits)
	}
	return shifted
}

// shiftDown is a by 2^n, without what is behind the point.
func shiftDown(a []uint32, n int) []uint32 {
	limbs, part := n/limbBits, n%limbBits
	if limbs >= len(a) {
		return nil
	}
	shifted := make([]uint32, len(a)-limbs)
	for i := range len(shifted) {
		wide := uint64(a[i+limbs]) | limbAt(a, i+limbs+1)<<limbBits
		shifted[i] = uint32(wide >> part)
	}
	return shifted
}
