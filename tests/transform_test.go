package tests

import (
	"slices"
	"testing"

	"loop.example/shadowseries/impl"
)

// ofList are the functions of one list that make numbers of it, BinomialOf by some numbers among them.
func ofList() []unary {
	list := []unary{
		{"ZigzagOf", impl.ZigzagOf},
		{"AlternateOf", func(f []int) ([]int, bool) {
			got := impl.AlternateOf(f)
			return got, got != nil
		}},
	}
	for _, c := range []int{0, 1, -1, 2, impl.MaxPoint, -impl.MaxPoint} {
		list = append(list, unary{"BinomialOf", func(f []int) ([]int, bool) { return impl.BinomialOf(f, c) }})
	}
	return list
}

// withLists visits pairs, each with lists of its length of small numbers, of any, and of the pair's own.
func withLists(seed int64, visit func(p impl.Pair, list []int)) {
	for i, two := range twoPairs(samplePairs(seed)) {
		p := two[0]
		small := eachNumber(len(p.G), func(n int) int { return (i*i+n*(i+3))%7 - 3 })
		for _, list := range [][]int{small, two[1].G, two[1].F, repeated(1, len(p.G)), make([]int, len(p.G))} {
			visit(p, list)
		}
	}
}

func TestTransformsByRows(t *testing.T) {
	var calls tally
	withLists(70, func(p impl.Pair, list []int) {
		numbers, succeeds := within(rowsTimes(pairCoefsOf(p).rows(), list))
		got, ok := impl.TransformBy(p, list)
		want(t, "TransformBy", []any{p, list}, got, ok, numbers, succeeds)
		calls.count(ok)
	})
	calls.atLeast(t, 5000, 1000)
}

func wantNoTransform(t *testing.T, p impl.Pair, list []int) {
	t.Helper()
	got, ok := impl.TransformBy(p, list)
	want(t, "TransformBy", []any{p, list}, got, ok, nil, false)
}

func TestInvalidTransforms(t *testing.T) {
	for _, p := range noPairs() {
		for count := range impl.MaxN + 2 {
			wantNoTransform(t, p, make([]int, count))
			wantNoTransform(t, p, repeated(1, count))
		}
		for _, list := range [][]int{p.G, p.F, make([]int, len(p.G)), make([]int, len(p.F))} {
			wantNoTransform(t, p, list)
		}
	}
	for count := 2; count <= impl.MaxN+1; count++ {
		p := pairOf(unit(count), line(count))
		for _, list := range noSeries() {
			wantNoTransform(t, p, list)
		}
		for other := range impl.MaxN + 3 {
			if other != count {
				wantNoTransform(t, p, make([]int, other))
			}
		}
		for place := range count {
			for _, number := range []int{601, -601, 1 << 32, 1<<63 - 1, -1 << 63} {
				list := make([]int, count)
				list[place] = number
				wantNoTransform(t, p, list)
			}
		}
	}
}

func TestInvalidLists(t *testing.T) {
	for _, f := range noSeries() {
		for _, u := range ofList() {
			got, ok := u.call(f)
			want(t, u.name, f, got, ok, nil, false)
		}
		if got := impl.HankelOf(f); got != nil {
			t.Errorf("HankelOf(%v) = %v", f, got)
		}
	}
	for _, c := range append(beyond(), -11, 100, -100, 1<<32+1, 1<<62) {
		for _, f := range append(noSeries(), ints(0), ints(1), ints(0, 0), repeated(0, 6), unit(6)) {
			got, ok := impl.BinomialOf(f, c)
			want(t, "BinomialOf", []any{f, c}, got, ok, nil, false)
		}
	}
}

func TestDeterminantsByOrders(t *testing.T) {
	great := 0
	for _, f := range samples(71) {
		got := impl.HankelOf(f)
		same(t, "HankelOf", f, got, determinants(f))
		if slices.Max(got) > impl.MaxCoefficient {
			great++
		}
	}
	atLeast(t, great, 200)
}

func TestKnownDeterminants(t *testing.T) {
	// some lists end with a number that no square needs
	list := []struct{ f, want []int }{
		{ints(0), ints(1, 0)}, {ints(-7), ints(1, -7)}, {ints(600), ints(1, 600)}, {ints(3, 600), ints(1, 3)},
		{ints(1, 2, 3), ints(1, 1, -1)}, {ints(0, 1, 0), ints(1, 0, -1)}, {ints(1, 2, 3, 600), ints(1, 1, -1)},
		{ints(1, 1, 2, 5, 15), ints(1, 1, 1, 2)}, {ints(1, 1, 2, 5, 15, 52), ints(1, 1, 1, 2)}, {ints(1, 0, 1, 0, 3, 0), ints(1, 1, 1, 2)},
		{ints(0, 0, 1, 0, 0), ints(1, 0, 0, -1)}, {ints(2, 3, 5, 7, 11), ints(1, 2, 1, -2)}, {repeated(600, 6), ints(1, 600, 0, 0)},
		// greater than the numbers of a series
		{ints(600, 0, 600), ints(1, 600, 360000)}, {ints(600, 600, -600), ints(1, 600, -720000)},
		{ints(600, -600, -600, -600, 600), ints(1, 600, -720000, -864000000)}, {ints(25, 1, 24, 0), ints(1, 25, 599)}, {ints(25, -1, -24), ints(1, 25, -601)},
	}
	for _, l := range list {
		same(t, "HankelOf", l.f, impl.HankelOf(l.f), l.want)
	}
}

func TestBinomialBySets(t *testing.T) {
	var calls tally
	for _, f := range samples(72) {
		for c := -impl.MaxPoint; c <= impl.MaxPoint; c++ {
			list, succeeds := within(binomialBySets(f, c))
			got, ok := impl.BinomialOf(f, c)
			want(t, "BinomialOf", []any{f, c}, got, ok, list, succeeds)
			calls.count(ok)
		}
	}
	calls.atLeast(t, 10000, 10000)
}

func TestListsByPlaces(t *testing.T) {
	var calls tally
	for _, f := range samples(73) {
		got, ok := impl.ZigzagOf(f)
		list, succeeds := within(lastOfRows(f))
		want(t, "ZigzagOf", f, got, ok, list, succeeds)
		calls.count(ok)
		same(t, "AlternateOf", f, impl.AlternateOf(f), inTurns(f))
	}
	calls.atLeast(t, 1000, 250)
}

func act(p impl.Pair, list []int, want []int) limit {
	return limit{"TransformBy", func() ([]int, bool) { return impl.TransformBy(p, list) }, want}
}

func binomial(list []int, c int, want []int) limit {
	return limit{"BinomialOf", func() ([]int, bool) { return impl.BinomialOf(list, c) }, want}
}

func zigzag(list []int, want []int) limit {
	return limit{"ZigzagOf", func() ([]int, bool) { return impl.ZigzagOf(list) }, want}
}

// TestLimitsOfTransforms has numbers that are just within the limits, or too great by one, and lists of one number and of six.
func TestLimitsOfTransforms(t *testing.T) {
	plain, turned := pairOf(ints(1, 1), ints(0, 1)), pairOf(ints(-1, 1), ints(0, -1))
	limits := []limit{
		act(plain, ints(1, 599), ints(1, 600)), act(plain, ints(1, 600), nil), act(plain, ints(-1, -599), ints(-1, -600)), act(plain, ints(-1, -600), nil),
		act(plain, ints(600, 0), ints(600, 600)), act(plain, ints(600, 1), nil), act(plain, ints(600, -600), ints(600, 0)),
		act(turned, ints(600, 0), ints(-600, 600)), act(turned, ints(600, 1), nil), act(turned, ints(-1, 599), ints(1, 598)),
		act(impl.UnitPair(6), repeated(600, 6), repeated(600, 6)), act(impl.UnitPair(6), repeated(-600, 6), repeated(-600, 6)),
		act(impl.UnitPair(2), ints(600, -600), ints(600, -600)), act(impl.UnitPair(6), repeated(0, 6), repeated(0, 6)),
		// h of F in the place of t is too great, what the array makes is not
		act(pairOf(ints(1, -1, 0), ints(0, 1, 600)), ints(0, 1, 2), ints(0, 1, 600)),
		act(pairOf(ints(1, -1, 0), ints(0, 1, 600)), ints(0, 1, 3), nil),
		// the array has numbers that are too great for a series
		act(pairOf(ints(1, 0, 0, 0), ints(0, 1, 600, 0)), ints(5, 0, 0, 600), ints(5, 0, 0, 600)),
		// products are too great, their sum is not
		act(pairOf(ints(1, 0, 600), ints(0, 1, 600)), ints(600, -600, 600), ints(600, -600, 600)),
		act(pairOf(ints(1, 0, 600), ints(0, 1, 600)), ints(600, -599, 0), ints(600, -599, 600)),
		act(pairOf(ints(1, 0, 600), ints(0, 1, 600)), ints(600, -599, 1), nil),
		binomial(ints(600), 9, ints(600)), binomial(ints(-600), -9, ints(-600)), binomial(ints(0), 0, ints(0)), binomial(repeated(600, 6), 0, repeated(600, 6)),
		binomial(ints(1, 591), 9, ints(1, 600)), binomial(ints(1, 592), 9, nil), binomial(ints(1, -591), -9, ints(1, -600)), binomial(ints(1, -592), -9, nil),
		binomial(ints(1, 599), 1, ints(1, 600)), binomial(ints(1, 600), 1, nil), binomial(ints(-1, -599), 1, ints(-1, -600)), binomial(ints(-1, -600), 1, nil),
		binomial(ints(0, 0, 0, 0, 120, 0), 1, ints(0, 0, 0, 0, 120, 600)), binomial(ints(0, 0, 0, 0, 120, 1), 1, nil), binomial(ints(0, 0, 0, 0, 120, -600), 1, ints(0, 0, 0, 0, 120, 0)),
		binomial(ints(0, 0, 0, 0, 0, 600), 9, ints(0, 0, 0, 0, 0, 600)), binomial(unit(3), 9, ints(1, 9, 81)), binomial(unit(3), -9, ints(1, -9, 81)),
		binomial(unit(4), 8, ints(1, 8, 64, 512)), binomial(unit(4), 9, nil), binomial(unit(4), -9, nil),
		binomial(ints(600, 600), 9, nil), binomial(ints(600, -600), 2, ints(600, 600)), binomial(ints(600, -599), 2, nil),
		zigzag(ints(600), ints(600)), zigzag(ints(-600), ints(-600)), zigzag(ints(0), ints(0)), zigzag(unit(6), ints(1, 1, 1, 2, 5, 16)),
		zigzag(ints(1, 599), ints(1, 600)), zigzag(ints(1, 600), nil), zigzag(ints(-1, -599), ints(-1, -600)), zigzag(ints(-1, -600), nil),
		zigzag(ints(0, 0, 0, 0, 120, 0), ints(0, 0, 0, 0, 120, 600)), zigzag(ints(0, 0, 0, 0, 120, 1), nil),
		zigzag(ints(600, -600, 600), ints(600, 0, 0)), zigzag(repeated(600, 6), nil), zigzag(repeated(600, 2), nil),
		// one number of the last row is 601, its last one is not
		zigzag(ints(600, -1, 2), ints(600, 599, 600)), zigzag(ints(600, -1, 3), nil),
	}
	for i, l := range limits {
		got, ok := l.call()
		want(t, l.name, i, got, ok, l.want, l.want != nil)
	}
	same(t, "AlternateOf", "600 throughout", impl.AlternateOf(repeated(600, 6)), ints(600, -600, 600, -600, 600, -600))
	same(t, "AlternateOf", "one number", impl.AlternateOf(ints(-600)), ints(-600))
}

func TestKnownTransforms(t *testing.T) {
	partitions, _ := impl.NamedPair("partitions", 6)
	got, ok := impl.TransformBy(partitions, repeated(1, 6))
	want(t, "TransformBy", "partitions", got, ok, ints(1, 1, 2, 5, 15, 52), true)
	pascal, _ := impl.NamedPair("pascal", 4)
	got, ok = impl.TransformBy(pascal, ints(0, 1, 0, -2))
	want(t, "TransformBy", "pascal", got, ok, ints(0, 1, 2, 1), true)
	got, ok = impl.TransformBy(pairOf(ints(1, 2, 3), ints(0, -1, 4)), ints(5, 7, 11))
	want(t, "TransformBy", "a pair", got, ok, ints(5, 3, 26), true)
	got, ok = impl.BinomialOf(ints(1, 2, 4, 8), -2)
	want(t, "BinomialOf", -2, got, ok, ints(1, 0, 0, 0), true)
	got, ok = impl.BinomialOf(ints(1, 0, 1, 2), 1)
	want(t, "BinomialOf", 1, got, ok, ints(1, 1, 2, 6), true)
	got, ok = impl.BinomialOf(ints(3, -1, 2), 3)
	want(t, "BinomialOf", 3, got, ok, ints(3, 8, 23), true)
	got, ok = impl.ZigzagOf(ints(1, 1, 1, 1, 1, 1))
	want(t, "ZigzagOf", "ones", got, ok, ints(1, 2, 4, 9, 24, 77), true)
	got, ok = impl.ZigzagOf(ints(0, 1, 0, 0, 0))
	want(t, "ZigzagOf", "t", got, ok, ints(0, 1, 2, 3, 8), true)
	same(t, "AlternateOf", "four numbers", impl.AlternateOf(ints(1, 2, -3, -4)), ints(1, -2, -3, 4))
	same(t, "AlternateOf", "0", impl.AlternateOf(ints(0)), ints(0))
}

// sequence is a function that returns numbers for each k from 0 to n.
type sequence struct {
	name  string
	call  func(n int) []int
	all   []int
	count func(k int) int
}

func sequences() []sequence {
	return []sequence{
		{"BellNumbers", impl.BellNumbers, ints(1, 1, 2, 5, 15, 52), func(k int) int { return len(everyWay(k)) }},
		{"LostNumbers", impl.LostNumbers, ints(1, 0, 1, 2, 9, 44), func(k int) int { return ordersThat(k, isLost) }},
		{"UpDownNumbers", impl.UpDownNumbers, ints(1, 1, 1, 2, 5, 16), func(k int) int { return ordersThat(k, isUpDown) }},
	}
}

func TestNumbersByCounting(t *testing.T) {
	for _, s := range sequences() {
		same(t, s.name, "counted one by one", s.all, eachNumber(impl.MaxN+1, s.count))
		for n := range impl.MaxN + 1 {
			same(t, s.name, n, s.call(n), s.all[:n+1])
		}
		for _, n := range []int{-1, -2, -6, 6, 7, 100, 1 << 32, -1 << 32, 1<<63 - 1, -1 << 63} {
			if got := s.call(n); got != nil {
				t.Errorf("%s(%d) = %v", s.name, n, got)
			}
		}
	}
}

// TestSeriesAreCut is for the promise 1.
func TestSeriesAreCut(t *testing.T) {
	for _, f := range samples(74) {
		if !impl.ValidSeries(f) || impl.ValidSeries(cut(f)) != (len(f) > 1) {
			t.Fatalf("ValidSeries of %v is %v, of %v it is %v", f, impl.ValidSeries(f), cut(f), impl.ValidSeries(cut(f)))
		}
		if turned := impl.AlternateOf(f); !impl.ValidSeries(turned) || len(turned) != len(f) {
			t.Fatalf("AlternateOf(%v) = %v", f, turned)
		}
	}
}

// TestPairsActAsArrays is for the promise 15.
func TestPairsActAsArrays(t *testing.T) {
	checked, more := 0, 0
	withLists(75, func(p impl.Pair, list []int) {
		numbers, told := impl.TransformBy(p, list)
		got, ok := impl.ActOn(p, list)
		if ok {
			checked++
			want(t, "ActOn, and TransformBy,", []any{p, list}, got, ok, numbers, told)
		} else if told {
			more++
		}
	})
	atLeast(t, checked, 5000)
	atLeast(t, more, 10) // ActOn needs another valid series on the way
}

// TestInversesUndoArrays is for the promises 18 and 46.
func TestInversesUndoArrays(t *testing.T) {
	checked := 0
	withLists(76, func(p impl.Pair, list []int) {
		inverse, ok := impl.InversePair(p)
		if !ok {
			return
		}
		for _, two := range [][2]impl.Pair{{p, inverse}, {inverse, p}} {
			product := multiplyRows(impl.ArrayOf(two[0]), impl.ArrayOf(two[1]))
			if !sameRows(product, unitRows(len(p.G))) {
				t.Fatalf("ArrayOf %v and of %v give %v", two[0], two[1], product)
			}
			if numbers, ok := impl.TransformBy(two[0], list); ok {
				checked++
				back, ok := impl.TransformBy(two[1], numbers)
				want(t, "TransformBy both", []any{two, list}, back, ok, list, true)
			}
		}
	})
	atLeast(t, checked, 5000)
}

// TestSumsOfNamedPairs is for the promise 21.
func TestSumsOfNamedPairs(t *testing.T) {
	for count := 2; count <= impl.MaxN+1; count++ {
		wanted := map[string][]int{
			"pascal":     eachNumber(count, func(n int) int { return power(2, n) }),
			"partitions": impl.BellNumbers(count - 1),
			"cycles":     products(count),
			"lists": eachNumber(count, func(n int) int {
				sum := 0
				for k := range n + 1 {
					sum += impl.ListCount(n, k)
				}
				return sum
			}),
		}
		for _, name := range names() {
			p, ok := impl.NamedPair(name, count)
			if !ok {
				t.Fatalf("NamedPair(%q, %d) fails", name, count)
			}
			same(t, "RowSums of "+name, count, impl.RowSums(p), wanted[name])
		}
	}
}

// products are those of all numbers from 1 up, count of them, the first one of no numbers.
func products(count int) []int {
	list := repeated(1, count)
	for n := 1; n < count; n++ {
		list[n] = n * list[n-1]
	}
	return list
}

// TestRowSumsAreTransforms is for the promise 22.
func TestRowSumsAreTransforms(t *testing.T) {
	var calls tally
	for _, p := range append(samplePairs(77), smallPairs(4)...) {
		sums, succeeds := within(impl.RowSums(p))
		got, ok := impl.TransformBy(p, repeated(1, len(p.G)))
		want(t, "TransformBy of 1 throughout", p, got, ok, sums, succeeds)
		calls.count(ok)
	}
	calls.atLeast(t, 5000, 500)
}

// TestDeterminantsStay is for the promise 47.
func TestDeterminantsStay(t *testing.T) {
	checked := 0
	for _, f := range samples(78) {
		same(t, "HankelOf AlternateOf", f, impl.HankelOf(impl.AlternateOf(f)), impl.HankelOf(f))
		if list, ok := impl.BinomialOf(f, 1); ok {
			checked++
			same(t, "HankelOf BinomialOf 1", f, impl.HankelOf(list), impl.HankelOf(f))
		}
	}
	atLeast(t, checked, 1000)
}

// TestBinomialsGoBack is for the promise 48.
func TestBinomialsGoBack(t *testing.T) {
	back, multiplied := 0, 0
	for _, f := range samples(79) {
		for c := -impl.MaxPoint; c <= impl.MaxPoint; c++ {
			list, ok := impl.BinomialOf(f, c)
			if ok {
				back++
				again, ok := impl.BinomialOf(list, -c)
				want(t, "BinomialOf and back", []any{f, c}, again, ok, f, true)
			}
			if powers := eachNumber(len(f), func(k int) int { return power(c, k) }); impl.ValidSeries(powers) {
				multiplied++
				product, succeeds := impl.MultiplySeries(f, powers)
				want(t, "BinomialOf, and MultiplySeries,", []any{f, c}, list, ok, product, succeeds)
			}
		}
	}
	atLeast(t, back, 10000)
	atLeast(t, multiplied, 10000)
}

// TestSignsAreChangedBack is for the promise 49.
func TestSignsAreChangedBack(t *testing.T) {
	checked := 0
	for _, two := range pairsOf(samples(80)) {
		f, g := two[0], two[1]
		same(t, "AlternateOf twice", f, impl.AlternateOf(impl.AlternateOf(f)), f)
		if product, ok := impl.MultiplySeries(f, g); ok {
			checked++
			other, ok := impl.MultiplySeries(impl.AlternateOf(f), impl.AlternateOf(g))
			want(t, "AlternateOf both, and of the product,", two, other, ok, impl.AlternateOf(product), true)
		}
	}
	atLeast(t, checked, 1000)
}

// TestRowsBothWaysMultiply is for the promise 50.
func TestRowsBothWaysMultiply(t *testing.T) {
	var calls tally
	for _, f := range append(samples(81), everySeries(5, -1, 2)...) {
		product, succeeds := impl.MultiplySeries(f, impl.UpDownNumbers(len(f)-1))
		got, ok := impl.ZigzagOf(f)
		want(t, "ZigzagOf, and MultiplySeries,", f, got, ok, product, succeeds)
		calls.count(ok)
	}
	calls.atLeast(t, 1000, 250)
}

// TestBellNumbersStepOn is for the promise 51.
func TestBellNumbersStepOn(t *testing.T) {
	for n := range impl.MaxN {
		got, ok := impl.BinomialOf(impl.BellNumbers(n), 1)
		want(t, "BinomialOf BellNumbers", n, got, ok, impl.BellNumbers(n + 1)[1:], true)
	}
}

// TestLostAndFound is for the promise 52.
func TestLostAndFound(t *testing.T) {
	for n := range impl.MaxN + 1 {
		got, ok := impl.BinomialOf(impl.LostNumbers(n), 1)
		want(t, "BinomialOf LostNumbers", n, got, ok, products(n+1), true)
	}
}

// TestOrdersPartAtTheGreatest is for the promise 53.
func TestOrdersPartAtTheGreatest(t *testing.T) {
	numbers := impl.UpDownNumbers(impl.MaxN)
	same(t, "UpDownNumbers", "the first two", numbers[:2], ints(1, 1))
	for n := 1; n < impl.MaxN; n++ {
		sum := 0
		for k := range n + 1 {
			sum += sets(n, k) * numbers[k] * numbers[n-k]
		}
		if 2*numbers[n+1] != sum {
			t.Errorf("UpDownNumbers are %v, twice that at %d is not %d", numbers, n+1, sum)
		}
	}
}
