package exact

import (
	"math/bits"

	"dioptra/api"
	"dioptra/whole"
)

// set is some of the places from 0 on, below MaxDim: a bit for each.
type set uint

func setOf(list []int) set {
	s := set(0)
	for _, place := range list {
		s = s.with(place)
	}
	return s
}

func (s set) has(place int) bool { return s>>place&1 == 1 }

func (s set) with(place int) set { return s | 1<<place }

func (s set) without(place int) set { return s &^ (1 << place) }

func (s set) size() int { return bits.OnesCount(uint(s)) }

// last is the greatest place of a set that has one.
func (s set) last() int { return bits.Len(uint(s)) - 1 }

// above is how many places of the set are greater than that one.
func (s set) above(place int) int { return (s >> (place + 1)).size() }

// expand is a minor by its last row: each number there times the minor of the rows before it and the other columns, which rest tells.
func expand(last []api.Whole, cols set, rest func(others set) api.Whole) api.Whole {
	sum := api.Whole{}
	for c := range len(last) {
		if !cols.has(c) {
			continue
		}
		product, _ := whole.Mul(last[c], rest(cols.without(c))) // mostLimbs sees to it that nothing here is too long
		if cols.above(c)%2 == 0 {
			sum, _ = whole.Add(sum, product)
		} else {
			sum, _ = whole.Sub(sum, product)
		}
	}
	return sum
}

// determinant is that of rows that are as many as columns.
func determinant(rows [][]api.Whole) api.Whole {
	var kept [1 << api.MaxDim]api.Whole // by a set of columns: their minor with as many of the first rows
	kept[0] = whole.Of(1)
	full := set(1)<<len(rows) - 1
	for i := range full {
		cols := i + 1 // upwards, since a set, as a number, is greater than all its parts
		kept[cols] = expand(rows[cols.size()-1], cols, func(others set) api.Whole { return kept[others] })
	}
	return kept[full]
}

// places are rows and columns, as many of each.
type places struct {
	rows, cols set
}

// ledger keeps the minors that were asked for.
type ledger struct {
	rows  [][]api.Whole
	known map[places]api.Whole
}

func newLedger(rows [][]api.Whole) ledger {
	return ledger{rows, map[places]api.Whole{}}
}

// minor is that of the rows and columns at p.
func (l ledger) minor(p places) api.Whole {
	if p.rows == 0 {
		return whole.Of(1)
	}
	if m, ok := l.known[p]; ok {
		return m
	}
	last := p.rows.last()
	m := expand(l.rows[last], p.cols, func(others set) api.Whole {
		return l.minor(places{p.rows.without(last), others})
	})
	l.known[p] = m
	return m
}

// widened is p, whose minor is not 0, with row r and a column beside it, if there is one with which the minor is not 0 either.
// Otherwise row r is made of p's rows, so that it adds nothing to any greater minor: p stays as it is.
func (l ledger) widened(p places, r int) places {
	for c := range len(l.rows[r]) {
		next := places{p.rows.with(r), p.cols.with(c)}
		if !p.cols.has(c) && len(l.minor(next).Limbs) > 0 {
			return next
		}
	}
	return p
}
