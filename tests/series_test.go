package tests

import (
	"regexp"
	"slices"
	"strconv"
	"strings"
	"testing"

	"loop.example/shadowseries/impl"
)

func binaries() []binary {
	return []binary{
		{"AddSeries", impl.AddSeries},
		{"MultiplySeries", impl.MultiplySeries},
		{"ComposeSeries", impl.ComposeSeries},
	}
}

// begins is a function with the first numbers that it asks for, one list of which its series has to begin with.
type begins struct {
	unary
	firsts [][]int
}

func beginnings() []begins {
	list := []begins{
		{unary{"InvertSeries", impl.InvertSeries}, [][]int{{1}, {-1}}},
		{unary{"ReverseSeries", impl.ReverseSeries}, [][]int{{0, 1}, {0, -1}}},
		{unary{"ExponentialOf", impl.ExponentialOf}, [][]int{{0}}},
		{unary{"LogarithmOf", impl.LogarithmOf}, [][]int{{1}}},
	}
	for k := range impl.MaxN + 1 {
		power := func(f []int) ([]int, bool) { return impl.DividedPower(f, k) }
		list = append(list, begins{unary{"DividedPower " + strconv.Itoa(k), power}, [][]int{{0}}})
	}
	return list
}

// unaries are the functions of one series that may fail, DividedPower by each k among them.
func unaries() []unary {
	var list []unary
	for _, b := range beginnings() {
		list = append(list, b.unary)
	}
	return list
}

// accepts reports whether f begins with one of the lists.
func (b begins) accepts(f []int) bool {
	return slices.ContainsFunc(b.firsts, func(firsts []int) bool {
		return len(f) >= len(firsts) && slices.Equal(f[:len(firsts)], firsts)
	})
}

func TestConstants(t *testing.T) {
	if impl.MaxN != 5 || impl.MaxCoefficient != 600 {
		t.Errorf("MaxN = %d, MaxCoefficient = %d", impl.MaxN, impl.MaxCoefficient)
	}
}

func TestValidSeries(t *testing.T) {
	for count := 1; count <= impl.MaxN+1; count++ {
		for _, number := range []int{0, 1, -1, 600, -600} {
			if f := repeated(number, count); !impl.ValidSeries(f) {
				t.Errorf("ValidSeries(%v) is false", f)
			}
		}
		for place := range count {
			for _, number := range []int{601, -601, 1 << 40, -1 << 40, 1<<63 - 1, -1 << 63} {
				f := repeated(1, count)
				f[place] = number
				if impl.ValidSeries(f) {
					t.Errorf("ValidSeries(%v) is true", f)
				}
			}
		}
	}
	for _, f := range noSeries() {
		if impl.ValidSeries(f) {
			t.Errorf("ValidSeries(%v) is true", f)
		}
	}
}

func TestInvalidArgumentsOfOneSeries(t *testing.T) {
	for _, b := range beginnings() {
		for _, f := range noSeries() {
			got, ok := b.call(f)
			want(t, b.name, f, got, ok, nil, false)
		}
		for _, f := range samples(1) {
			if got, ok := b.call(f); !b.accepts(f) {
				want(t, b.name, f, got, ok, nil, false)
			}
		}
	}
	for _, k := range []int{-1, -2, 6, 7, 1 << 40, -1 << 63, 1<<63 - 1} {
		for _, f := range [][]int{{0}, {0, 1}, {0, 1, 1, 1, 1, 1}} {
			got, ok := impl.DividedPower(f, k)
			want(t, "DividedPower "+strconv.Itoa(k), f, got, ok, nil, false)
		}
	}
	for _, f := range append(noSeries(), []int{0}, []int{1}, []int{600}) {
		if got := impl.DeriveSeries(f); got != nil {
			t.Errorf("DeriveSeries(%v) = %v", f, got)
		}
	}
	for _, f := range noSeries() {
		if got := impl.SeriesText(f); got != "" {
			t.Errorf("SeriesText(%v) = %q", f, got)
		}
	}
}

func TestInvalidArgumentsOfTwoSeries(t *testing.T) {
	for _, b := range binaries() {
		for _, f := range noSeries() {
			for _, g := range [][]int{f, make([]int, len(f)), line(6), {0}} {
				got, ok := b.call(f, g)
				want(t, b.name, [2][]int{f, g}, got, ok, nil, false)
				got, ok = b.call(g, f)
				want(t, b.name, [2][]int{g, f}, got, ok, nil, false)
			}
		}
		for m := range impl.MaxN + 1 {
			for n := range impl.MaxN + 1 {
				if f, g := make([]int, m+1), make([]int, n+1); m != n {
					got, ok := b.call(f, g)
					want(t, b.name, [2][]int{f, g}, got, ok, nil, false)
				}
			}
		}
	}
	for count := 1; count <= impl.MaxN+1; count++ {
		for _, first := range []int{1, -1, 2, 600} {
			g := line(count)
			g[0] = first
			got, ok := impl.ComposeSeries(line(count), g)
			want(t, "ComposeSeries", g, got, ok, nil, false)
		}
	}
}

// known is a call with the result that the document tells.
type known struct {
	f, g, want []int
	ok         bool
}

func TestKnownResultsOfTwoSeries(t *testing.T) {
	tables := map[string][]known{
		"AddSeries": {
			{ints(1, 1, 1), ints(0, 1, 2), ints(1, 2, 3), true},
			{ints(7), ints(-7), ints(0), true},
			{ints(300), ints(300), ints(600), true}, {ints(300), ints(301), nil, false},
			{ints(-300), ints(-300), ints(-600), true}, {ints(-300), ints(-301), nil, false},
			{repeated(300, 6), repeated(300, 6), repeated(600, 6), true},
			{ints(0, 0, 0, 0, 0, 600), ints(0, 0, 0, 0, 0, 1), nil, false},
		},
		"MultiplySeries": {
			{ints(1, 1, 1, 1, 1, 1), ints(1, 1, 1, 1, 1, 1), ints(1, 2, 4, 8, 16, 32), true},
			{ints(25), ints(24), ints(600), true}, {ints(-25), ints(24), ints(-600), true}, {ints(24), ints(26), nil, false},
			{ints(600), ints(1), ints(600), true}, {ints(600), ints(600), nil, false}, {ints(-1), ints(-600), ints(600), true},
			{ints(0, 0, 0, 1, 0, 0), ints(0, 0, 60, 0, 0, 0), ints(0, 0, 0, 0, 0, 600), true},
			{ints(0, 0, 0, 1, 0, 0), ints(0, 0, -60, 0, 0, 0), ints(0, 0, 0, 0, 0, -600), true},
			{ints(0, 0, 0, 1, 0, 0), ints(0, 0, 61, 0, 0, 0), nil, false},
			// one summand is 1200, the sum is not
			{ints(1, 600, 600), ints(0, 1, -600), ints(0, 1, 600), true},
			{ints(0, 600), ints(0, 600), ints(0, 0), true},
		},
		"ComposeSeries": {
			{ints(0, 0, 1, 0, 0, 0), ints(0, 1, 1, 1, 1, 1), ints(0, 0, 1, 3, 7, 15), true},
			{ints(5), ints(0), ints(5), true}, {ints(-600), ints(0), ints(-600), true},
			{ints(7, 24), ints(0, 25), ints(7, 600), true}, {ints(7, 24), ints(0, -25), ints(7, -600), true},
			{ints(7, 24), ints(0, 26), nil, false},
			{ints(1, 600, 0, 0, 0, 0), ints(0, 1, 0, 0, 0, 0), ints(1, 600, 0, 0, 0, 0), true},
			// the square of the inner series is too great, but it's taken 0 times, or outweighed
			{ints(0, 1, 0), ints(0, 600, 0), ints(0, 600, 0), true},
			{ints(0, 1, 1), ints(0, 25, -25), ints(0, 25, 600), true}, {ints(0, 1, 1), ints(0, 25, -24), nil, false},
			{repeated(600, 6), repeated(0, 6), ints(600, 0, 0, 0, 0, 0), true},
			{repeated(600, 6), ints(0, 600, 600, 600, 600, 600), nil, false},
		},
	}
	for _, b := range binaries() {
		for _, k := range tables[b.name] {
			got, ok := b.call(k.f, k.g)
			want(t, b.name, [2][]int{k.f, k.g}, got, ok, k.want, k.ok)
		}
	}
}

func TestKnownResultsOfOneSeries(t *testing.T) {
	tables := map[string][]known{
		"InvertSeries": {
			{ints(1), nil, ints(1), true}, {ints(-1), nil, ints(-1), true}, {ints(0), nil, nil, false}, {ints(2), nil, nil, false},
			{ints(1, -1, 0, 0, 0, 0), nil, ints(1, 1, 2, 6, 24, 120), true},
			{ints(-1, 1, 0, 0, 0, 0), nil, ints(-1, -1, -2, -6, -24, -120), true},
			{ints(1, 600), nil, ints(1, -600), true}, {ints(-1, 600), nil, ints(-1, -600), true},
			{ints(1, 17, -22), nil, ints(1, -17, 600), true}, {ints(1, 17, -23), nil, nil, false},
			{ints(-1, 17, 22), nil, ints(-1, -17, -600), true}, {ints(-1, 17, 23), nil, nil, false},
		},
		"ReverseSeries": {
			{ints(0), nil, nil, false}, {ints(0, 0), nil, nil, false}, {ints(0, 2), nil, nil, false}, {ints(0, -2), nil, nil, false},
			{ints(1, 1), nil, nil, false}, {ints(-1, 1), nil, nil, false}, {ints(0, 600), nil, nil, false},
			{ints(0, 1), nil, ints(0, 1), true}, {ints(0, -1), nil, ints(0, -1), true},
			{ints(0, 1, 1, 1, 1, 1), nil, ints(0, 1, -1, 2, -6, 24), true},
			{ints(0, -1, 1, -1, 1, -1), nil, ints(0, -1, 1, -2, 6, -24), true},
			{ints(0, 1, -600), nil, ints(0, 1, 600), true}, {ints(0, -1, 600), nil, ints(0, -1, 600), true},
			{ints(0, 1, 14, -12), nil, ints(0, 1, -14, 600), true}, {ints(0, 1, 14, -13), nil, nil, false},
		},
		"ExponentialOf": {
			{ints(0), nil, ints(1), true}, {ints(1), nil, nil, false}, {ints(-1, 1), nil, nil, false},
			{ints(0, 1, 1, 1, 1, 1), nil, ints(1, 1, 2, 5, 15, 52), true},
			{ints(0, 600), nil, ints(1, 600), true}, {ints(0, -600), nil, ints(1, -600), true},
			{ints(0, 24, 24), nil, ints(1, 24, 600), true}, {ints(0, 24, 25), nil, nil, false},
			// the square is too great, the sum is not
			{ints(0, 25, -25), nil, ints(1, 25, 600), true},
		},
		"LogarithmOf": {
			{ints(1), nil, ints(0), true}, {ints(-1), nil, nil, false}, {ints(0, 1), nil, nil, false}, {ints(2, 1), nil, nil, false},
			{ints(1, 1, 2, 5, 15, 52), nil, ints(0, 1, 1, 1, 1, 1), true},
			{ints(1, 1, 2, 6, 24, 120), nil, ints(0, 1, 1, 2, 6, 24), true},
			{ints(1, 600), nil, ints(0, 600), true},
			{ints(1, 24, -24), nil, ints(0, 24, -600), true}, {ints(1, 24, -25), nil, nil, false},
			// the inverse has 700 for the last number, the logarithm nothing too great
			{ints(1, 20, 100), nil, ints(0, 20, -300), true},
		},
		"DividedPower 0": {
			{ints(0), nil, ints(1), true}, {ints(0, 2, 0), nil, ints(1, 0, 0), true}, {ints(1), nil, nil, false}, {ints(-1, 1), nil, nil, false},
			{ints(0, 600, 600, 600, 600, 600), nil, ints(1, 0, 0, 0, 0, 0), true},
		},
		"DividedPower 1": {{ints(0, 600, -600), nil, ints(0, 600, -600), true}, {ints(0), nil, ints(0), true}},
		"DividedPower 2": {
			{ints(0, 1, 1, 1, 1, 1), nil, ints(0, 0, 1, 3, 7, 15), true},
			{ints(0, 24, 0), nil, ints(0, 0, 576), true}, {ints(0, 25, 0), nil, nil, false}, {ints(0, 600), nil, ints(0, 0), true},
			{ints(0, 10, 20, 0), nil, ints(0, 0, 100, 600), true}, {ints(0, 10, -20, 0), nil, ints(0, 0, 100, -600), true},
			{ints(0, 3, 67, 0), nil, nil, false},
		},
		"DividedPower 5": {
			{ints(0, 3, 9, 9, 9, 9), nil, ints(0, 0, 0, 0, 0, 243), true}, {ints(0, -3, 0, 0, 0, 0), nil, ints(0, 0, 0, 0, 0, -243), true},
			{ints(0, 4, 0, 0, 0, 0), nil, nil, false}, {ints(0), nil, ints(0), true}, {ints(0, 600, 0, 0, 0), nil, ints(0, 0, 0, 0, 0), true},
		},
	}
	for _, u := range unaries() {
		for _, k := range tables[u.name] {
			got, ok := u.call(k.f)
			want(t, u.name, k.f, got, ok, k.want, k.ok)
		}
	}
}

func TestResultsOfTwoSeriesByFractions(t *testing.T) {
	for _, p := range append(pairsOf(samples(2)), pairsOf(startingWith(3, 0))...) {
		f, g := p[0], p[1]
		list, succeeds := coefsOf(f).plus(coefsOf(g)).numbers()
		got, ok := impl.AddSeries(f, g)
		want(t, "AddSeries", p, got, ok, list, succeeds)

		list, succeeds = coefsOf(f).times(coefsOf(g)).numbers()
		got, ok = impl.MultiplySeries(f, g)
		want(t, "MultiplySeries", p, got, ok, list, succeeds)

		if g[0] == 0 {
			list, succeeds = coefsOf(f).of(coefsOf(g)).numbers()
			got, ok = impl.ComposeSeries(f, g)
			want(t, "ComposeSeries", p, got, ok, list, succeeds)
		}
	}
}

func TestResultsOfOneSeriesByFractions(t *testing.T) {
	references := map[string]func(c coefs) coefs{
		"InvertSeries":  coefs.inverse,
		"ReverseSeries": coefs.reverse,
		"ExponentialOf": coefs.exponential,
		"LogarithmOf":   coefs.logarithm,
	}
	for k := range impl.MaxN + 1 {
		references["DividedPower "+strconv.Itoa(k)] = func(c coefs) coefs {
			one := factorial(k)
			return c.power(k).scaled(one.Inv(one))
		}
	}
	for _, b := range beginnings() {
		succeeded, failed := 0, 0
		for _, firsts := range b.firsts {
			for _, f := range startingWith(4, firsts...) {
				list, succeeds := references[b.name](coefsOf(f)).numbers()
				got, ok := b.call(f)
				want(t, b.name, f, got, ok, list, succeeds)
				if ok {
					succeeded++
				} else {
					failed++
				}
			}
		}
		atLeast(t, succeeded, 500)
		// the powers 0 and 1 are never too great
		if b.name != "DividedPower 0" && b.name != "DividedPower 1" {
			atLeast(t, failed, 100)
		}
	}
}

// TestSums is for the promise 2.
func TestSums(t *testing.T) {
	checked := 0
	for _, p := range pairsOf(samples(5)) {
		f, g := p[0], p[1]
		sum, ok := impl.AddSeries(f, g)
		other, _ := impl.AddSeries(g, f)
		same(t, "AddSeries both ways", p, sum, other)
		if ok {
			checked++
			back, _ := impl.AddSeries(sum, negative(g))
			same(t, "AddSeries of what is turned round", p, back, f)
		}
		if _, ok := impl.AddSeries(f, make([]int, len(f)+1)); ok {
			t.Fatalf("AddSeries of %v and a longer one succeeds", f)
		}
	}
	atLeast(t, checked, 1000)
}

// TestProducts is for the promise 3.
func TestProducts(t *testing.T) {
	checked := 0
	for _, p := range pairsOf(samples(6)) {
		f, g := p[0], p[1]
		product, ok := impl.MultiplySeries(f, g)
		other, _ := impl.MultiplySeries(g, f)
		same(t, "MultiplySeries both ways", p, product, other)
		if !ok || len(f) == 1 {
			continue
		}
		left, ok1 := impl.MultiplySeries(impl.DeriveSeries(f), cut(g))
		right, ok2 := impl.MultiplySeries(cut(f), impl.DeriveSeries(g))
		if ok1 && ok2 {
			checked++
			sum, _ := impl.AddSeries(left, right)
			same(t, "the derivative of MultiplySeries", p, impl.DeriveSeries(product), sum)
		}
	}
	atLeast(t, checked, 1000)
}

// TestInverses is for the promise 4.
func TestInverses(t *testing.T) {
	for _, first := range []int{1, -1} {
		checked := 0
		for _, f := range startingWith(7, first) {
			if inverse, ok := impl.InvertSeries(f); ok {
				checked++
				product, _ := impl.MultiplySeries(f, inverse)
				same(t, "MultiplySeries with InvertSeries", f, product, unit(len(f)))
				again, _ := impl.InvertSeries(inverse)
				same(t, "InvertSeries twice", f, again, f)
			}
		}
		atLeast(t, checked, 500)
	}
}

// TestDividedPowers is for the promise 5.
func TestDividedPowers(t *testing.T) {
	for k := range impl.MaxN {
		checked := 0
		for _, f := range startingWith(8, 0) {
			lesser, ok1 := impl.DividedPower(f, k)
			greater, ok2 := impl.DividedPower(f, k+1)
			if ok1 && ok2 && len(f) > 1 {
				checked++
				product, _ := impl.MultiplySeries(impl.DeriveSeries(f), cut(lesser))
				same(t, "the derivative of DividedPower", f, impl.DeriveSeries(greater), product)
			}
		}
		atLeast(t, checked, 500)
	}
}

// TestComposed is for the promise 6.
func TestComposed(t *testing.T) {
	checked := 0
	for _, p := range pairsOf(startingWith(9, 0)) {
		f, g := slices.Clone(p[0]), p[1]
		f[0] = 3
		with, _ := impl.ComposeSeries(f, line(len(f)))
		same(t, "ComposeSeries with t", f, with, f)
		of, _ := impl.ComposeSeries(line(len(g)), g)
		same(t, "ComposeSeries of t", g, of, g)
		composed, ok := impl.ComposeSeries(f, g)
		if !ok || len(f) == 1 {
			continue
		}
		if outer, ok := impl.ComposeSeries(impl.DeriveSeries(f), cut(g)); ok {
			checked++
			product, _ := impl.MultiplySeries(outer, impl.DeriveSeries(g))
			same(t, "the derivative of ComposeSeries", p, impl.DeriveSeries(composed), product)
		}
	}
	atLeast(t, checked, 500)
}

// TestReversed is for the promise 7.
func TestReversed(t *testing.T) {
	for _, second := range []int{1, -1} {
		checked := 0
		for _, f := range startingWith(10, 0, second) {
			reverse, ok := impl.ReverseSeries(f)
			if !ok {
				continue
			}
			checked++
			one, _ := impl.ComposeSeries(f, reverse)
			same(t, "ComposeSeries with ReverseSeries", f, one, line(len(f)))
			other, _ := impl.ComposeSeries(reverse, f)
			same(t, "ComposeSeries of ReverseSeries", f, other, line(len(f)))
			again, _ := impl.ReverseSeries(reverse)
			same(t, "ReverseSeries twice", f, again, f)
		}
		atLeast(t, checked, 500)
	}
}

// TestDerivatives is for the promise 8.
func TestDerivatives(t *testing.T) {
	checked := 0
	for _, p := range pairsOf(samples(11)) {
		f, g := p[0], p[1]
		if len(f) == 1 {
			if got := impl.DeriveSeries(f); got != nil {
				t.Fatalf("DeriveSeries(%v) = %v", f, got)
			}
			continue
		}
		same(t, "DeriveSeries without the first one", f, impl.DeriveSeries(f), f[1:])
		if sum, ok := impl.AddSeries(f, g); ok {
			checked++
			both, _ := impl.AddSeries(impl.DeriveSeries(f), impl.DeriveSeries(g))
			same(t, "DeriveSeries of a sum", p, impl.DeriveSeries(sum), both)
		}
	}
	atLeast(t, checked, 1000)
}

// TestExponentials is for the promise 9.
func TestExponentials(t *testing.T) {
	checked := 0
	for _, f := range startingWith(12, 0) {
		exponential, ok := impl.ExponentialOf(f)
		if !ok {
			continue
		}
		logarithm, _ := impl.LogarithmOf(exponential)
		same(t, "LogarithmOf ExponentialOf", f, logarithm, f)
		if len(f) > 1 {
			product, _ := impl.MultiplySeries(cut(exponential), impl.DeriveSeries(f))
			same(t, "the derivative of ExponentialOf", f, impl.DeriveSeries(exponential), product)
		}
		if other, ok := impl.ExponentialOf(negative(f)); ok {
			checked++
			inverse, _ := impl.InvertSeries(exponential)
			same(t, "ExponentialOf the series turned round", f, other, inverse)
		}
	}
	atLeast(t, checked, 500)
}

// TestLogarithms is for the promise 10.
func TestLogarithms(t *testing.T) {
	checked := 0
	for _, f := range startingWith(13, 1) {
		if logarithm, ok := impl.LogarithmOf(f); ok {
			checked++
			exponential, _ := impl.ExponentialOf(logarithm)
			same(t, "ExponentialOf LogarithmOf", f, exponential, f)
		}
	}
	atLeast(t, checked, 500)
}

// TestSeriesAreReadBack is for the promise 11.
func TestSeriesAreReadBack(t *testing.T) {
	all := samples(14)
	for number := -impl.MaxCoefficient; number <= impl.MaxCoefficient; number++ {
		all = append(all, ints(number), ints(0, number))
	}
	for _, f := range all {
		got, ok := impl.ParseSeries(impl.SeriesText(f))
		want(t, "ParseSeries of SeriesText", f, got, ok, f, true)
	}
	texts := map[string][]int{
		"0": {0}, "-1": {-1}, "600": {600}, "-600": {-600}, "1,-20,600": {1, -20, 600}, "0,0,0,0,0,0": {0, 0, 0, 0, 0, 0},
		"-600,600,-600,600,-600,600": {-600, 600, -600, 600, -600, 600}, "10,-100": {10, -100},
	}
	for text, f := range texts {
		if got := impl.SeriesText(f); got != text {
			t.Errorf("SeriesText(%v) = %q; want %q", f, got, text)
		}
	}
}

// noTexts are texts that are no series.
func noTexts() []string {
	return []string{
		"", ",", "1,", ",1", "1,,2", ",,", "01", "00", "-0", "+0", "-01", "--1", "+1", "1,+1", "-", "1,-", "- 1", "1-",
		"1, 2", "1 ,2", " 1", "1 ", "1\n", "\n1", "1\r", "1\t", "1,2\n", "1;2", "1.0", "1e2", "0x1", "0b1", "0o1", "1_0", "a", "1,a", "[1]", "[1 2]",
		"601", "-601", "1,601", "0600", "9223372036854775807", "9223372036854775808", "-9223372036854775808", "18446744073709551617",
		"99999999999999999999999", "0,0,0,0,0,0,0", "1,1,1,1,1,1,1", "1,1,1,1,1,1,", "1,1,1,1,1,1,1,1", "1\x00", "\x00", "\xff", "1,\xff",
		"\uff11", "\u0661", "\u22121", "inf", "NaN", "nil", "true",
		strings.Repeat(",", 100000), strings.Repeat("0,", 100000) + "0", strings.Repeat("0", 100000) + "1", strings.Repeat("1", 100000),
	}
}

// TestTextsAreWrittenBack is for the promise 12.
func TestTextsAreWrittenBack(t *testing.T) {
	for _, text := range noTexts() {
		got, ok := impl.ParseSeries(text)
		want(t, "ParseSeries", text, got, ok, nil, false)
	}
	// Every short text of these bytes is read exactly if it has the form of a series' text.
	number := "(0|-?([1-9][0-9]?|[1-5][0-9][0-9]|600))"
	form := regexp.MustCompile("^" + number + "(," + number + "){0,5}$")
	checked := 0
	ends := []string{""}
	for range 6 {
		var next []string
		for _, text := range ends {
			for _, b := range "016,-+ " {
				next = append(next, text+string(b))
			}
		}
		for _, text := range next {
			got, ok := impl.ParseSeries(text)
			if ok != form.MatchString(text) {
				t.Fatalf("ParseSeries(%q) = %v, %v", text, got, ok)
			}
			if !ok {
				continue
			}
			checked++
			if back := impl.SeriesText(got); back != text {
				t.Fatalf("SeriesText of ParseSeries of %q = %q", text, back)
			}
		}
		ends = next
	}
	atLeast(t, checked, 500)
}
