package tests

import (
	"math/big"
	"slices"

	"loop.example/shadowseries/impl"
)

// The reference of pairs reckons with coefficients as well; where the document asks for a series
// on the way that has to be valid, it asks for its numbers.

// pairCoefs are the coefficients of both series of a pair.
type pairCoefs struct{ g, f coefs }

func pairCoefsOf(p impl.Pair) pairCoefs {
	return pairCoefs{coefsOf(p.G), coefsOf(p.F)}
}

// rows puts the numbers of all columns into rows.
func (p pairCoefs) rows() [][]int {
	rows := make([][]int, len(p.g))
	for k := range p.g {
		one := factorial(k)
		column, ok := p.g.times(p.f.power(k)).scaled(one.Inv(one)).wholes()
		if !ok {
			return nil
		}
		for n := range rows {
			rows[n] = append(rows[n], column[n])
		}
	}
	return rows
}

// act returns the numbers of g times h of f, if these and those of h of f are within the limits.
func (p pairCoefs) act(h coefs) ([]int, bool) {
	composed := h.of(p.f)
	if _, ok := composed.numbers(); !ok {
		return nil, false
	}
	return p.g.times(composed).numbers()
}

func (p pairCoefs) times(q pairCoefs) (impl.Pair, bool) {
	g, ok1 := p.act(q.g)
	f, ok2 := q.f.of(p.f).numbers()
	if !ok1 || !ok2 {
		return impl.Pair{}, false
	}
	return impl.Pair{G: g, F: f}, true
}

func (p pairCoefs) inverse() (impl.Pair, bool) {
	reverse, inverse := p.f.reverse(), p.g.inverse()
	f, ok1 := reverse.numbers()
	_, ok2 := inverse.numbers()
	g, ok3 := inverse.of(reverse).numbers()
	if !ok1 || !ok2 || !ok3 {
		return impl.Pair{}, false
	}
	return impl.Pair{G: g, F: f}, true
}

// derivative returns that of c, of one number less.
func (c coefs) derivative() coefs {
	out := zeroCoefs(len(c) - 1)
	for k := range out {
		out[k].Mul(c[k+1], big.NewRat(int64(k+1), 1))
	}
	return out
}

// steps returns the lists of the series on the way, ReverseSeries, InvertSeries, the product and both results,
// each nil if it is not within the limits.
func (p pairCoefs) steps() [5][]int {
	last := len(p.g) - 1
	reverse, inverse := p.f.reverse(), p.g[:last].inverse()
	quotient := p.g.derivative().times(inverse)
	lists := [5][]int{}
	for i, c := range []coefs{reverse, inverse, quotient, p.f.derivative().of(reverse[:last]), quotient.of(reverse[:last])} {
		lists[i], _ = c.numbers()
	}
	return lists
}

// pairByColumns returns the pair of rows by the quotient of the first two columns.
func pairByColumns(rows [][]int) (impl.Pair, bool) {
	if len(rows) < 2 || len(rows) > impl.MaxN+1 {
		return impl.Pair{}, false
	}
	var first, second []int
	for _, row := range rows {
		if len(row) != len(rows) {
			return impl.Pair{}, false
		}
		first, second = append(first, row[0]), append(second, row[1])
	}
	if first[0] != 1 && first[0] != -1 {
		return impl.Pair{}, false
	}
	g, ok1 := coefsOf(first).numbers()
	f, ok2 := coefsOf(second).times(coefsOf(first).inverse()).numbers()
	if !ok1 || !ok2 || f[0] != 0 || f[1] != 1 && f[1] != -1 {
		return impl.Pair{}, false
	}
	p := impl.Pair{G: g, F: f}
	if !slices.EqualFunc(pairCoefsOf(p).rows(), rows, slices.Equal) {
		return impl.Pair{}, false
	}
	return p, true
}
