// Package plain has the operations on numbers that the chapters from layer 9 on write, with their flags left out.
package plain

import (
	"dioptra/api"
	"dioptra/compare"
	"dioptra/root"
	"dioptra/sum"
	"dioptra/times"
)

// Add is a + b.
func Add(a, b api.Bits) api.Bits {
	r, _ := sum.Add(a, b)
	return r
}

// Sub is a - b.
func Sub(a, b api.Bits) api.Bits {
	r, _ := sum.Sub(a, b)
	return r
}

// Mul is a b.
func Mul(a, b api.Bits) api.Bits {
	r, _ := times.Mul(a, b)
	return r
}

// Div is a / b.
func Div(a, b api.Bits) api.Bits {
	r, _ := times.Div(a, b)
	return r
}

// Sqrt is sqrt a.
func Sqrt(a api.Bits) api.Bits {
	r, _ := root.Sqrt(a)
	return r
}

// Scale is a 2^k.
func Scale(a api.Bits, k int) api.Bits {
	r, _ := compare.Scale(a, k)
	return r
}
