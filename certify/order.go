package certify

import (
	"dioptra/api"
	"dioptra/dyadic"
)

const (
	limbLog  = 5
	limbBits = 1 << limbLog

	slackE   = -4000 // of what Within allows in any case, 2^-4000
	slackTop = slackE + 1
)

// atMost tells whether x is at most y times 2^-n, and 2^-4000 more, of numbers from 0 on.
// Sum and difference can be wider than any dyadic number may be, and y times 2^-n too small for one: so what is left of all three, if x is taken
// off, is reckoned limb by limb from the lowest place on, and just its sign is kept.
func atMost(x, y api.Dyadic, n int) bool {
	low := min(x.E, y.E-n, slackE)
	top := max(dyadic.Top(x), dyadic.Top(y), slackTop) // beyond it there is no digit of any of them, as n is not below 0
	slack := api.Whole{Limbs: []uint32{1}}
	left := int64(0)
	for i := range (top-low)/limbBits + 1 {
		place := low + i*limbBits
		left += limbFrom(y.M, place-y.E+n) + limbFrom(slack, place-slackE) - limbFrom(x.M, place-x.E)
		left >>= limbBits // rounded down, so that -1 is what the next limb lends
	}
	return left >= 0
}

// limbFrom is the 32 digits of m from place on, which may begin below m's first one and lie beyond its last one: there they are 0.
func limbFrom(m api.Whole, place int) int64 {
	i, part := place>>limbLog, place&(limbBits-1)
	wide := limbAt(m, i) | limbAt(m, i+1)<<limbBits
	return int64(uint32(wide >> part))
}

// limbAt is the i-th limb of m, 0 where there is none.
func limbAt(m api.Whole, i int) uint64 {
	if i < 0 || i >= len(m.Limbs) {
		return 0
	}
	return uint64(m.Limbs[i])
}
