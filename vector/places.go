package vector

import (
	"dioptra/api"
	"dioptra/plain"
)

// each is a new list of what at says of the places below n.
func each[T any](n int, at func(i int) T) []T {
	list := make([]T, n)
	for i := range n {
		list[i] = at(i)
	}
	return list
}

// gather is what comes of first, when next has gone over the places below n.
func gather[T any](n int, first T, next func(before T, i int) T) T {
	all := first
	for i := range n {
		all = next(all, i)
	}
	return all
}

// fit tells whether x and y are vectors of one length.
func fit(x, y []api.Bits) bool {
	return len(x) <= api.MaxLong && len(x) == len(y)
}

// dot is Dot of vectors of one length.
func dot(x, y []api.Bits) api.Bits {
	return gather(len(x), api.Zero, func(s api.Bits, i int) api.Bits { return plain.Add(s, plain.Mul(x[i], y[i])) })
}

// normBy is the norm of x, whose greatest number lies from 2^k on below 2^(k + 1): times 2^-k no square is too great, and the greatest one is not too small.
func normBy(x []api.Bits, k int) api.Bits {
	t := each(len(x), func(i int) api.Bits { return plain.Scale(x[i], -k) })
	return plain.Scale(plain.Sqrt(dot(t, t)), k)
}
