package tests

import (
	"slices"

	"loop.example/shadowseries/impl"
)

// samplePolys returns polynomials of all kinds: all short ones of small coefficients, random ones, powers, and ones at the limits.
func samplePolys(seed int64) [][]int {
	all := everySeries(3, -2, 2)
	all = append(all, randomLists(seed, 2000, 1, 5, 100, 3000, 50000, impl.MaxNumber)...)
	for count := 1; count <= impl.MaxN+1; count++ {
		for _, number := range []int{0, 1, -1, impl.MaxNumber, -impl.MaxNumber} {
			all = append(all, repeated(number, count))
			for place := range count {
				p := make([]int, count)
				p[place] = number
				all = append(all, p)
			}
		}
	}
	return all
}

// noPolys are lists that are no polynomial.
func noPolys() [][]int {
	all := [][]int{nil, {}, make([]int, 7), repeated(1, 7), make([]int, 1000)}
	for count := 1; count <= impl.MaxN+1; count++ {
		for place := range count {
			for _, number := range []int{1000001, -1000001, 1 << 32, -1 << 32, 1<<63 - 1, -1 << 63} {
				p := repeated(1, count)
				p[place] = number
				all = append(all, p)
			}
		}
	}
	return all
}

// beyond are points behind the border.
func beyond() []int { return []int{10, -10, 11, 1 << 32, 1<<63 - 1, -1 << 63} }

// triangle returns the rows of count numbers each of which a rule gives those up to the diagonal.
func triangle(count int, rule func(n int, k int) int) [][]int {
	rows := make([][]int, count)
	for n := range rows {
		rows[n] = make([]int, count)
		for k := range n + 1 {
			rows[n][k] = rule(n, k)
		}
	}
	return rows
}

// binomialRows returns the rows of 1 and f, a list with 0 ahead and anything else behind it, and whether they are polynomials.
func binomialRows(f []int) ([][]int, bool) {
	rows := pairCoefs{oneCoefs(len(f)), coefsOf(f)}.rows()
	return rows, rows != nil && !slices.ContainsFunc(rows, func(row []int) bool { return !impl.ValidPoly(row) })
}

// sampleSequences returns sequences of all kinds: those of pairs, those of binomial type with any diagonal, any triangles, and ones at the limits.
func sampleSequences(seed int64) [][][]int {
	all := [][][]int{{{1}}, {{5}}, {{-1}}, {{impl.MaxNumber}}, {{-impl.MaxNumber}}}
	for i, f := range randomLists(seed, 300, 1, 3, 10, 100, 1000, impl.MaxNumber) {
		f[0] = 0
		if rows, ok := binomialRows(f); ok && len(f) > 1 && f[1] != 0 {
			all = append(all, rows)
		}
		rows := triangle(len(f), func(n int, k int) int { return f[(n*n+k*(i+1))%len(f)] })
		for n := range rows {
			if rows[n][n] == 0 {
				rows[n][n] = 1 + i%7
			}
		}
		all = append(all, rows)
	}
	for _, p := range samplePairs(seed) {
		if rows := impl.ArrayOf(p); len(rows)%2 == 0 && impl.ValidSequence(rows) {
			all = append(all, rows)
		}
	}
	for count := 1; count <= impl.MaxN+1; count++ {
		for _, number := range []int{1, -1, impl.MaxNumber, -impl.MaxNumber} {
			all = append(all, triangle(count, func(int, int) int { return number }))
			all = append(all, triangle(count, func(n int, k int) int { return number * max(0, 1+k-n) }))
		}
	}
	return all
}

// noSequences are lists that are no sequence, each of them by one number or one length.
func noSequences() [][][]int {
	all := [][][]int{
		nil, {}, {nil}, {{}}, {{0}}, {{1000001}}, {{-1000001}}, {{1, 0}}, {{1}, {1}}, {{1, 0}, {0}}, {{1}, {0, 1}}, {{1, 0}, nil}, {nil, {0, 1}},
		// these would be of binomial type
		{{1, 0}, {0, 1000001}}, {{1, 0}, {0, -1000001}}, {{1, 0}, {0, 0}}, {{0, 0}, {0, 0}}, {{1, 0, 0}, {0, 0, 0}, {0, 1, 0}}, {{1, 0, 0}, {0, 1000, 0}, {0, 1000001, 1000000}},
		{{1, 0}, {1, 0}}, {{1, 1}, {1, 1}}, {{0, 1}, {1, 0}}, {{0, 0}, {0, 1}}, {{1, 0}, {0, 1, 0}}, {{1, 0, 0}, {0, 1, 0}}, {{1, 0}, {0, 1}, {0, 0}},
		unitRows(7), unitRows(1000), unitRows(6)[:5], append(unitRows(6), make([]int, 6)), append(unitRows(5), line(5)),
	}
	for count := 1; count <= impl.MaxN+1; count++ {
		for place := range count * count {
			n, k := place/count, place%count
			for _, number := range []int{0, 1, -1, impl.MaxNumber, impl.MaxNumber + 1, -impl.MaxNumber - 1, 1<<63 - 1, -1 << 63} {
				inside := -impl.MaxNumber <= number && number <= impl.MaxNumber
				if inside && (k < n || (k == n) == (number != 0)) {
					continue
				}
				rows := triangle(count, func(n int, k int) int { return 3*n + k + 1 })
				rows[n][k] = number
				all = append(all, rows)
			}
		}
		for n := range count {
			shorter, longer := unitRows(count), unitRows(count)
			shorter[n] = shorter[n][:count-1]
			longer[n] = append(longer[n], 0)
			all = append(all, shorter, longer)
		}
	}
	return all
}
