package tests

import (
	"math/rand"
	"slices"
	"testing"

	"loop.example/shadowseries/impl"
)

// unary is a function of one series that may fail.
type unary struct {
	name string
	call func(f []int) ([]int, bool)
}

// binary is a function of two series that may fail.
type binary struct {
	name string
	call func(f []int, g []int) ([]int, bool)
}

func ints(list ...int) []int { return list }

func repeated(number int, count int) []int {
	return slices.Repeat([]int{number}, count)
}

// unit is the series 1, of count numbers.
func unit(count int) []int {
	list := make([]int, count)
	list[0] = 1
	return list
}

// line is the series t, of count numbers.
func line(count int) []int {
	list := make([]int, count)
	if count > 1 {
		list[1] = 1
	}
	return list
}

// negative is a list turned round: each number with the other sign.
func negative(f []int) []int {
	list := slices.Clone(f)
	for i := range list {
		list[i] = -list[i]
	}
	return list
}

// cut is a list without its last number.
func cut(f []int) []int { return f[:len(f)-1] }

// everySeries returns all series of 1..longest numbers, each in low..high.
func everySeries(longest int, low int, high int) [][]int {
	var all [][]int
	ends := [][]int{{}}
	for range longest {
		var next [][]int
		for _, f := range ends {
			for number := low; number <= high; number++ {
				next = append(next, append(slices.Clone(f), number))
			}
		}
		all = append(all, next...)
		ends = next
	}
	return all
}

// randomSeries returns count series of all lengths, with numbers up to several sizes; the same ones each time.
func randomSeries(seed int64, count int) [][]int {
	return randomLists(seed, count, 1, 2, 5, 24, 100, impl.MaxCoefficient)
}

// randomLists returns count lists of 1..MaxN+1 numbers, each list with numbers up to one of some sizes.
func randomLists(seed int64, count int, sizes ...int) [][]int {
	r := rand.New(rand.NewSource(seed))
	var all [][]int
	for i := range count {
		f := make([]int, 1+r.Intn(impl.MaxN+1))
		size := sizes[i%len(sizes)]
		for k := range f {
			f[k] = r.Intn(2*size+1) - size
			if r.Intn(8) == 0 {
				f[k] = size * (1 - 2*r.Intn(2))
			}
		}
		all = append(all, f)
	}
	return all
}

// samples returns series of all kinds: all short ones of small numbers, random ones, and ones at the limits.
func samples(seed int64) [][]int {
	all := everySeries(4, -2, 2)
	all = append(all, randomSeries(seed, 2000)...)
	for count := 1; count <= impl.MaxN+1; count++ {
		all = append(all, repeated(0, count), repeated(1, count), repeated(-1, count),
			repeated(impl.MaxCoefficient, count), repeated(-impl.MaxCoefficient, count), unit(count), line(count))
	}
	return all
}

// startingWith returns the samples that are long enough, with their first numbers replaced by some.
func startingWith(seed int64, firsts ...int) [][]int {
	var all [][]int
	for _, f := range samples(seed) {
		if len(f) >= len(firsts) {
			all = append(all, append(slices.Clone(firsts), f[len(firsts):]...))
		}
	}
	return all
}

// pairsOf returns each list with another one of its length.
func pairsOf(lists [][]int) [][2][]int {
	last := map[int][]int{}
	var all [][2][]int
	for _, f := range lists {
		if g, ok := last[len(f)]; ok {
			all = append(all, [2][]int{f, g})
		}
		all = append(all, [2][]int{f, f})
		last[len(f)] = f
	}
	return all
}

// noSeries are lists that are no series, and ends of the int among them.
func noSeries() [][]int {
	return [][]int{
		nil, {}, {601}, {-601}, {0, 601}, {0, -601}, {1, 601}, {1, -601}, {0, 1, 601}, {0, 1, -601}, {0, 1, 0, 0, 0, 601},
		{0, 1 << 62}, {0, 1, -1 << 63}, {1, 1<<63 - 1}, {1, -1 << 63}, {-1 << 63}, {1<<63 - 1},
		{0, 1, 0, 0, 0, 0, 0}, {1, 1, 1, 1, 1, 1, 1}, make([]int, 7), make([]int, 1000),
	}
}

// want checks a list and a bool; a list that is not there has to be nil.
func want(t *testing.T, name string, args any, got []int, ok bool, list []int, succeeds bool) {
	t.Helper()
	wantList(t, name, args, got, ok, list, succeeds)
	if ok && !impl.ValidSeries(got) {
		t.Fatalf("%s of %v = %v, which is no series", name, args, got)
	}
}

// wantPoly checks a list and a bool like want, for a polynomial.
func wantPoly(t *testing.T, name string, args any, got []int, ok bool, list []int, succeeds bool) {
	t.Helper()
	wantList(t, name, args, got, ok, list, succeeds)
	if ok && !impl.ValidPoly(got) {
		t.Fatalf("%s of %v = %v, which is no polynomial", name, args, got)
	}
}

func wantList(t *testing.T, name string, args any, got []int, ok bool, list []int, succeeds bool) {
	t.Helper()
	if ok != succeeds || !slices.Equal(got, list) {
		t.Fatalf("%s of %v = %v, %v; want %v, %v", name, args, got, ok, list, succeeds)
	}
	if !ok && got != nil {
		t.Fatalf("%s of %v = %v with false; want nil", name, args, got)
	}
}

// same checks that two calls that promise the same gave the same.
func same(t *testing.T, promise string, args any, one []int, other []int) {
	t.Helper()
	if !slices.Equal(one, other) {
		t.Fatalf("%s does not hold for %v: %v and %v", promise, args, one, other)
	}
}

// atLeast checks that a promise was held against enough arguments.
func atLeast(t *testing.T, checked int, wanted int) {
	t.Helper()
	if checked < wanted {
		t.Fatalf("only %d calls succeeded; want %d at least", checked, wanted)
	}
}

// tally counts the calls that succeed, and those that fail.
type tally struct{ succeeded, failed int }

func (c *tally) count(ok bool) {
	if ok {
		c.succeeded++
	} else {
		c.failed++
	}
}

// atLeast checks that there were enough calls of both kinds.
func (c tally) atLeast(t *testing.T, succeeded int, failed int) {
	t.Helper()
	if c.succeeded < succeeded || c.failed < failed {
		t.Fatalf("only %d calls succeeded and %d failed; want %d and %d at least", c.succeeded, c.failed, succeeded, failed)
	}
}
