package certify

import (
	"dioptra/api"
	"dioptra/dyadic"
	"dioptra/soft"
	"dioptra/whole"
)

// lastPlace is the power of two that the last digit of the smallest finite numbers stands for.
const lastPlace = -1074

// grid is things in rows and columns, row by row.
type grid[T any] struct {
	rows, cols int
	cells      []T
}

// build is a grid of what cell says of each place.
func build[T any](rows, cols int, cell func(i, k int) T) grid[T] {
	g := grid[T]{rows: rows, cols: cols}
	for i := range rows {
		for k := range cols {
			g.cells = append(g.cells, cell(i, k))
		}
	}
	return g
}

func (g grid[T]) at(i, k int) T {
	return g.cells[i*g.cols+k]
}

// turned has g's rows as columns.
func (g grid[T]) turned() grid[T] {
	return build(g.cols, g.rows, func(i, k int) T { return g.at(k, i) })
}

// lines are g's rows, each as a list of its own.
func (g grid[T]) lines() [][]T {
	list := make([][]T, g.rows)
	for i := range g.rows {
		for k := range g.cols {
			list[i] = append(list[i], g.at(i, k))
		}
	}
	return list
}

// values are the numbers of a matrix that may be asked, by what they are worth.
func values(m api.Matrix) grid[api.Dyadic] {
	return build(m.Rows, m.Cols, func(i, k int) api.Dyadic {
		value, _ := soft.Value(m.Data[i*m.Cols+k]) // no error: it is finite
		return value
	})
}

// wholes are the numbers of a matrix that may be asked, all times one power of two, with which they are whole: that keeps the rank.
// They are below 2^2098, so no longer than layer 3 allows.
func wholes(m api.Matrix) grid[api.Whole] {
	exactly := values(m)
	return build(m.Rows, m.Cols, func(i, k int) api.Whole {
		value := exactly.at(i, k)
		n, _ := whole.Shift(value.M, value.E-lastPlace)
		return n
	})
}

// Nothing that is reckoned with these grids is out of a dyadic number's range. The widest is the sum of Gradient's squares: of products of three
// numbers, which end at 2^-3222 and are below 2^3078 with the sums around them, squared and added. So it ends at 2^-6444 and is below 2^6162:
// 12606 digits, where MaxLimbs holds 16384.

// gathering is a sum that is kept from one product to the next: add takes a times b up into it, and told is what it has come to.
func gathering() (add func(a, b api.Dyadic), told func() api.Dyadic) {
	kept := api.Dyadic{}
	add = func(a, b api.Dyadic) {
		product, _ := dyadic.Mul(a, b)
		kept, _ = dyadic.Add(kept, product)
	}
	return add, func() api.Dyadic { return kept }
}

// times is a times b, which has as many rows as a columns.
func times(a, b grid[api.Dyadic]) grid[api.Dyadic] {
	return build(a.rows, b.cols, func(i, k int) api.Dyadic {
		add, told := gathering()
		for j := range a.cols {
			add(a.at(i, j), b.at(j, k))
		}
		return told()
	})
}

// less is a less b, which is of a's size.
func less(a, b grid[api.Dyadic]) grid[api.Dyadic] {
	return build(a.rows, a.cols, func(i, k int) api.Dyadic {
		rest, _ := dyadic.Sub(a.at(i, k), b.at(i, k))
		return rest
	})
}

// square is the sum of the squares of all that g holds.
func square(g grid[api.Dyadic]) api.Dyadic {
	add, told := gathering()
	for i := range len(g.cells) {
		add(g.cells[i], g.cells[i])
	}
	return told()
}
