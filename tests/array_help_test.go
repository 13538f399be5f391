package tests

import (
	"slices"
	"testing"

	"loop.example/shadowseries/impl"
)

// signs are the numbers that the first series of a pair begins with, and the second number of the other one.
var signs = [][2]int{{1, 1}, {1, -1}, {-1, 1}, {-1, -1}}

// smallPairs returns all pairs of count numbers, the free ones in -2..2.
func smallPairs(count int) []impl.Pair {
	var all []impl.Pair
	for _, g := range listsOf(count-1, -2, 2) {
		for _, f := range listsOf(count-2, -2, 2) {
			all = append(all, signed(g, f)...)
		}
	}
	return all
}

// listsOf returns all lists of count numbers, each in low..high.
func listsOf(count int, low int, high int) [][]int {
	if count == 0 {
		return [][]int{nil}
	}
	return slices.DeleteFunc(everySeries(count, low, high), func(f []int) bool { return len(f) != count })
}

// signed returns the pairs of the free numbers of both series, with all signs of the others.
func signed(g []int, f []int) []impl.Pair {
	var all []impl.Pair
	for _, s := range signs {
		all = append(all, impl.Pair{G: append(ints(s[0]), g...), F: append(ints(0, s[1]), f...)})
	}
	return all
}

// samplePairs returns pairs of all kinds: small ones, random ones, ones at the limits, and ones with names.
func samplePairs(seed int64) []impl.Pair {
	all := append(smallPairs(2), smallPairs(3)...)
	last := map[int][]int{}
	for _, f := range randomSeries(seed, 1500) {
		if g, ok := last[len(f)]; ok && len(f) > 1 {
			p := signed(g[1:], f[2:])
			all = append(all, p[len(all)%4])
		}
		last[len(f)] = f
	}
	for count := 2; count <= impl.MaxN+1; count++ {
		for _, number := range []int{0, 1, -1, impl.MaxCoefficient, -impl.MaxCoefficient} {
			for _, other := range []int{0, number} {
				all = append(all, signed(repeated(number, count-1), repeated(other, count-2))...)
			}
		}
		for _, name := range names() {
			if p, ok := impl.NamedPair(name, count); ok {
				all = append(all, p)
			}
		}
	}
	return all
}

func names() []string { return []string{"pascal", "partitions", "cycles", "lists"} }

// twoPairs returns each pair with another one of its length, and with itself.
func twoPairs(pairs []impl.Pair) [][2]impl.Pair {
	last := map[int]impl.Pair{}
	var all [][2]impl.Pair
	for _, p := range pairs {
		if q, ok := last[len(p.G)]; ok {
			all = append(all, [2]impl.Pair{p, q})
		}
		all = append(all, [2]impl.Pair{p, p})
		last[len(p.G)] = p
	}
	return all
}

// noPairs returns two series each that are no pair.
func noPairs() []impl.Pair {
	all := []impl.Pair{
		{}, {G: ints(), F: ints()}, {G: ints(1)}, {F: ints(0, 1)}, {G: ints(1, 0)}, {G: ints(1), F: ints(0)}, {G: ints(-1), F: ints(0)},
		{G: ints(1), F: ints(1)}, {G: ints(1), F: ints(0, 1)}, {G: ints(1, 0), F: ints(0)}, {G: ints(1, 0, 0), F: ints(0, 1)}, {G: ints(1, 0), F: ints(0, 1, 0)},
		{G: ints(0, 1), F: ints(1, 0)}, {G: unit(7), F: line(7)}, {G: unit(6), F: line(7)}, {G: unit(7), F: line(6)}, {G: unit(1000), F: line(1000)},
	}
	for count := 2; count <= impl.MaxN+1; count++ {
		for _, first := range []int{0, 2, -2, 600, 601, -601, 1<<63 - 1, -1 << 63} {
			g := unit(count)
			g[0] = first
			all = append(all, impl.Pair{G: g, F: line(count)})
		}
		for _, first := range []int{1, -1, 2, 600, 601, 1<<63 - 1, -1 << 63} {
			f := line(count)
			f[0] = first
			all = append(all, impl.Pair{G: unit(count), F: f})
		}
		for _, second := range []int{0, 2, -2, 600, 601, 1<<63 - 1, -1 << 63} {
			f := line(count)
			f[1] = second
			all = append(all, impl.Pair{G: unit(count), F: f})
		}
		for place := range count {
			g, f := unit(count), line(count)
			g[place], f[place] = 601, -601
			all = append(all, impl.Pair{G: g, F: line(count)}, impl.Pair{G: unit(count), F: f}, impl.Pair{G: g, F: f})
		}
	}
	return all
}

// wantPair checks a pair and a bool; a pair that is not there has to be the zero value.
func wantPair(t *testing.T, name string, args any, got impl.Pair, ok bool, p impl.Pair, succeeds bool) {
	t.Helper()
	if ok != succeeds || !samePair(got, p) {
		t.Fatalf("%s of %v = %v, %v; want %v, %v", name, args, got, ok, p, succeeds)
	}
	if !ok && (got.G != nil || got.F != nil) {
		t.Fatalf("%s of %v = %v with false; want nil twice", name, args, got)
	}
	if ok && !impl.ValidPair(got) {
		t.Fatalf("%s of %v = %v, which is no pair", name, args, got)
	}
}

func samePair(p impl.Pair, q impl.Pair) bool {
	return slices.Equal(p.G, q.G) && slices.Equal(p.F, q.F)
}

func sameRows(one [][]int, other [][]int) bool {
	return slices.EqualFunc(one, other, slices.Equal)
}

// unitRows are rows with 1 on the diagonal alone.
func unitRows(count int) [][]int {
	rows := make([][]int, count)
	for n := range rows {
		rows[n] = make([]int, count)
		rows[n][n] = 1
	}
	return rows
}

// multiplyRows is the product of two arrays.
func multiplyRows(one [][]int, other [][]int) [][]int {
	product := make([][]int, len(one))
	for n, row := range one {
		product[n] = make([]int, len(one))
		for m, number := range row {
			for k := range other[m] {
				product[n][k] += number * other[m][k]
			}
		}
	}
	return product
}

// cloneRows returns a copy of rows that shares no memory with them.
func cloneRows(rows [][]int) [][]int {
	var all [][]int
	for _, row := range rows {
		all = append(all, slices.Clone(row))
	}
	return all
}
