package soft

import (
	"dioptra/api"
	"dioptra/dyadic"
	"dioptra/whole"
)

const (
	signBit = api.NegZero

	fractionBits = 52
	hidden       = 1 << fractionBits // the bit above the fraction that a normal number has
	highPower    = 1<<11 - 1

	digits  = fractionBits + 1 // that a number has at most
	lowE    = -1074            // of the last digit, in the smallest numbers
	highTop = 1024             // of the greatest numbers

	least       = api.Bits(1)      // the least number above 0
	leastNormal = api.Bits(hidden) // 2^-1022
)

// fields are the three parts of a number's bits.
type fields struct {
	sign            bool
	power, fraction uint64
}

func split(b api.Bits) fields {
	return fields{
		sign:     b&signBit != 0,
		power:    uint64(b) >> fractionBits & highPower,
		fraction: uint64(b) & (hidden - 1),
	}
}

// parts are a finite number's whole number, with its sign, and the power of two that it is taken times.
func (f fields) parts() (m int64, e int) {
	m, e = int64(f.fraction), lowE
	if f.power > 0 {
		m += hidden
		e += int(f.power) - 1
	}
	if f.sign {
		m = -m
	}
	return m, e
}

// roundSize rounds a right d without its sign, and tells the flags.
func roundSize(d api.Dyadic) (api.Bits, api.Flags) {
	top := dyadic.Top(d)
	switch {
	case len(d.M.Limbs) == 0: // its top says nothing of its digits
		return api.Zero, 0
	case top > highTop: // nor could its power be written in 11 bits
		return api.Inf, api.Inexact | api.Overflow
	}
	last := max(top-digits, lowE)
	// A highest digit that stands above the fraction adds 1 to the power, as it should; so does the carry of what is rounded up to one digit more.
	b := api.Bits(roundAt(d, last) + uint64(last-lowE)<<fractionBits)
	switch {
	case d.E >= last: // no digit of d lies behind the last one
		return b, 0
	case b == api.Inf:
		return b, api.Inexact | api.Overflow
	case b < leastNormal:
		return b, api.Inexact | api.Underflow
	}
	return b, api.Inexact
}

// roundAt is how many times 2^last is nearest to d without its sign, d being below 2^(last + digits).
func roundAt(d api.Dyadic, last int) uint64 {
	m := d.M
	m.Neg = false
	halves, _ := whole.Shift(m, d.E-last+1) // of 54 digits at most, so that neither this nor the next one fails
	n, _ := whole.Small(halves)
	tie := d.E == last-1 // since M is odd, its last digit is the half itself
	if n&1 == 1 && (!tie || n&2 != 0) {
		n++ // the other half
	}
	return uint64(n) >> 1
}
