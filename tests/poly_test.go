package tests

import (
	"slices"
	"testing"

	"loop.example/shadowseries/impl"
)

func TestConstantsOfPolynomials(t *testing.T) {
	if impl.MaxNumber != 1000000 || impl.MaxPoint != 9 {
		t.Errorf("MaxNumber = %d, MaxPoint = %d", impl.MaxNumber, impl.MaxPoint)
	}
}

// TestValidPoly is for the promise 24, its first half, too.
func TestValidPoly(t *testing.T) {
	for _, p := range samplePolys(40) {
		if !impl.ValidPoly(p) {
			t.Fatalf("ValidPoly(%v) is false", p)
		}
		if rest := cut(p); impl.ValidPoly(rest) != (len(rest) > 0) {
			t.Fatalf("ValidPoly(%v) is %v", rest, impl.ValidPoly(rest))
		}
	}
	for _, p := range noPolys() {
		if impl.ValidPoly(p) {
			t.Fatalf("ValidPoly(%v) is true", p)
		}
	}
}

func TestInvalidPolynomials(t *testing.T) {
	for _, p := range noPolys() {
		for _, x := range []int{0, 1, -1, impl.MaxPoint, -impl.MaxPoint} {
			wantNoValue(t, p, x)
			got, ok := impl.ShiftPoly(p, x)
			wantPoly(t, "ShiftPoly", p, got, ok, nil, false)
		}
		for _, count := range []int{len(p), 1, 2, 6} {
			got, ok := impl.OperateOn(make([]int, count), p)
			wantPoly(t, "OperateOn", p, got, ok, nil, false)
			got, ok = impl.ReplacePowers(p, unitRows(count))
			wantPoly(t, "ReplacePowers", p, got, ok, nil, false)
		}
		got, ok := impl.ToFalling(p)
		wantPoly(t, "ToFalling", p, got, ok, nil, false)
		if got := impl.DifferencesAt(p); got != nil {
			t.Fatalf("DifferencesAt(%v) = %v", p, got)
		}
	}
	for _, f := range noSeries() {
		for _, count := range []int{len(f), 1, 2, 6} {
			got, ok := impl.OperateOn(f, make([]int, count))
			wantPoly(t, "OperateOn", f, got, ok, nil, false)
		}
	}
}

func wantNoValue(t *testing.T, p []int, x int) {
	t.Helper()
	if value, ok := impl.ValueOf(p, x); ok || value != 0 {
		t.Fatalf("ValueOf(%v, %d) = %d, %v", p, x, value, ok)
	}
}

func TestPointsBeyondTheBorder(t *testing.T) {
	for _, p := range [][]int{{0}, {1}, {0, 0}, {1, 1, 1, 1, 1, 1}, make([]int, 6)} {
		for _, x := range beyond() {
			wantNoValue(t, p, x)
			got, ok := impl.ShiftPoly(p, x)
			wantPoly(t, "ShiftPoly", []any{p, x}, got, ok, nil, false)
		}
	}
}

// TestPolynomialsOfTwoLengths gives series, polynomials and sequences that are valid, but not of one length.
func TestPolynomialsOfTwoLengths(t *testing.T) {
	for m := 1; m <= impl.MaxN+1; m++ {
		for n := 1; n <= impl.MaxN+1; n++ {
			if m == n {
				continue
			}
			got, ok := impl.OperateOn(unit(m), unit(n))
			wantPoly(t, "OperateOn", []int{m, n}, got, ok, nil, false)
			got, ok = impl.ReplacePowers(unit(m), unitRows(n))
			wantPoly(t, "ReplacePowers", []int{m, n}, got, ok, nil, false)
		}
	}
}

func TestValidSequence(t *testing.T) {
	for _, list := range sampleSequences(41) {
		if !impl.ValidSequence(list) {
			t.Fatalf("ValidSequence(%v) is false", list)
		}
	}
	for _, list := range noSequences() {
		if impl.ValidSequence(list) {
			t.Fatalf("ValidSequence(%v) is true", list)
		}
		if impl.IsBinomial(list) {
			t.Fatalf("IsBinomial(%v) is true", list)
		}
		for _, count := range []int{len(list), 1, 2, 6} {
			p := make([]int, count)
			got, ok := impl.ReplacePowers(p, list)
			wantPoly(t, "ReplacePowers", []any{p, list}, got, ok, nil, false)
		}
	}
}

// limit is a call with what it returns, nil for nothing.
type limit struct {
	name string
	call func() ([]int, bool)
	want []int
}

func shift(p []int, c int, want []int) limit {
	return limit{"ShiftPoly", func() ([]int, bool) { return impl.ShiftPoly(p, c) }, want}
}

func operate(f []int, p []int, want []int) limit {
	return limit{"OperateOn", func() ([]int, bool) { return impl.OperateOn(f, p) }, want}
}

func replace(p []int, list [][]int, want []int) limit {
	return limit{"ReplacePowers", func() ([]int, bool) { return impl.ReplacePowers(p, list) }, want}
}

func fall(p []int, want []int) limit {
	return limit{"ToFalling", func() ([]int, bool) { return impl.ToFalling(p) }, want}
}

// TestLimitsOfPolynomials has answers that are just valid, or not by one.
func TestLimitsOfPolynomials(t *testing.T) {
	limits := []limit{
		shift(ints(1000000), 9, ints(1000000)), shift(ints(-1000000), -9, ints(-1000000)), shift(ints(7), 0, ints(7)),
		shift(ints(999991, 1), 9, ints(1000000, 1)), shift(ints(999992, 1), 9, nil),
		shift(ints(-999991, 1), -9, ints(-1000000, 1)), shift(ints(-999992, 1), -9, nil),
		shift(ints(1000000, 1), -9, ints(999991, 1)), shift(ints(1000000, 1), 0, ints(1000000, 1)), shift(ints(1000000, 1), 1, nil),
		shift(ints(0, 0, 0, 0, 0, 1), 9, ints(59049, 32805, 7290, 810, 45, 1)),
		shift(ints(0, 0, 0, 0, 0, 1), -9, ints(-59049, 32805, -7290, 810, -45, 1)),
		shift(ints(0, 1000000), 0, ints(0, 1000000)), shift(ints(-1000000, 1000000), 1, ints(0, 1000000)),
		shift(ints(0, 0, 0, 0, 22222, 0), 9, nil), shift(ints(0, 0, 0, 0, 0, 22222), 3, nil),
		operate(ints(1, 1), ints(999999, 1), ints(1000000, 1)), operate(ints(1, 1), ints(1000000, 1), nil),
		operate(ints(1, -1), ints(-999999, 1), ints(-1000000, 1)), operate(ints(1, -1), ints(-1000000, 1), nil),
		operate(ints(600), ints(1666), ints(999600)), operate(ints(600), ints(1667), nil), operate(ints(-600), ints(1667), nil),
		operate(ints(0), ints(1000000), ints(0)), operate(ints(-1), ints(1000000), ints(-1000000)), operate(ints(-2), ints(500000), ints(-1000000)),
		operate(ints(0, 0, 0, 0, 0, 1), ints(1, 1, 1, 1, 1, -1000000), ints(-1000000, 0, 0, 0, 0, 0)),
		operate(ints(0, 0, 1, 0, 0, 0), ints(0, 0, 0, 0, 0, 100000), ints(0, 0, 0, 1000000, 0, 0)),
		operate(ints(0, 0, 1, 0, 0, 0), ints(0, 0, 0, 0, 0, 100001), nil),
		replace(ints(1, 1), [][]int{{1, 0}, {999999, 1}}, ints(1000000, 1)), replace(ints(1, 1), [][]int{{1, 0}, {1000000, 1}}, nil),
		replace(ints(1, -1), [][]int{{-1, 0}, {999999, 1}}, ints(-1000000, -1)), replace(ints(1, -1), [][]int{{-1, 0}, {1000000, 1}}, nil),
		replace(ints(1000000), [][]int{{1}}, ints(1000000)), replace(ints(1000000), [][]int{{-1}}, ints(-1000000)),
		replace(ints(1000), [][]int{{1000}}, ints(1000000)), replace(ints(1001), [][]int{{1000}}, nil), replace(ints(1000000), [][]int{{-1000000}}, nil),
		replace(ints(1000000, 1), [][]int{{2, 0}, {-1000000, 1}}, ints(1000000, 1)),
		// what would be left over is a polynomial, but not what is given
		replace(ints(1000001, 1), [][]int{{1, 0}, {-1, 1}}, nil), replace(ints(-1000001, 1), [][]int{{1, 0}, {1, 1}}, nil),
		replace(ints(-1<<63), [][]int{{2}}, nil), shift(ints(1000001, 1), -1, nil), operate(ints(0, 1), ints(1000001, 1), nil),
		operate(ints(601, 1), ints(0, 1), nil), operate(ints(1, -601), ints(0, 1), nil), fall(ints(0, 1000001, -1), nil),
		fall(ints(1000000), ints(1000000)), fall(ints(-1000000), ints(-1000000)), fall(ints(5, -1000000), ints(5, -1000000)),
		fall(ints(0, 999999, 1), ints(0, 1000000, 1)), fall(ints(0, 1000000, 1), nil),
		fall(ints(0, -999999, -1), ints(0, -1000000, -1)), fall(ints(0, -1000000, -1), nil),
		fall(ints(0, 0, 0, 0, 0, 1), ints(0, 1, 15, 25, 10, 1)), fall(ints(0, 0, 0, 0, 0, 40000), ints(0, 40000, 600000, 1000000, 400000, 40000)),
		fall(ints(0, 0, 0, 0, 0, 40001), nil),
	}
	for i, l := range limits {
		got, ok := l.call()
		wantPoly(t, l.name, i, got, ok, l.want, l.want != nil)
	}
}

// TestValuesByHorner is for the promise 25, too.
func TestValuesByHorner(t *testing.T) {
	for _, p := range samplePolys(42) {
		for x := -impl.MaxPoint; x <= impl.MaxPoint; x++ {
			value := bigsOf(p).at(x)
			if got, ok := impl.ValueOf(p, x); !ok || int64(got) != value.Int64() {
				t.Fatalf("ValueOf(%v, %d) = %d, %v; want %v", p, x, got, ok, value)
			}
		}
		if first, ok := impl.ValueOf(p, 0); !ok || first != p[0] {
			t.Fatalf("ValueOf(%v, 0) = %d, %v", p, first, ok)
		}
	}
	for x := -impl.MaxPoint; x <= impl.MaxPoint; x++ {
		power := 1
		for n := range impl.MaxN + 1 {
			p := make([]int, impl.MaxN+1)
			p[n] = 1
			if value, ok := impl.ValueOf(p, x); !ok || value != power {
				t.Fatalf("ValueOf(%v, %d) = %d, %v; want %d", p, x, value, ok, power)
			}
			power *= x
		}
	}
}

func TestShiftsByHorner(t *testing.T) {
	var calls tally
	for _, p := range samplePolys(43) {
		for c := -impl.MaxPoint; c <= impl.MaxPoint; c++ {
			list, succeeds := bigsOf(p).shifted(c).poly()
			got, ok := impl.ShiftPoly(p, c)
			wantPoly(t, "ShiftPoly", []any{p, c}, got, ok, list, succeeds)
			calls.count(ok)
		}
	}
	calls.atLeast(t, 10000, 5000)
}

// withSeries returns each polynomial with a series of its length.
func withSeries(seed int64) [][2][]int {
	series := map[int][][]int{}
	for _, f := range samples(seed) {
		series[len(f)] = append(series[len(f)], f)
	}
	var all [][2][]int
	for i, p := range samplePolys(seed) {
		for step := range 3 {
			fitting := series[len(p)]
			all = append(all, [2][]int{fitting[(3*i+step)%len(fitting)], p})
		}
	}
	return all
}

func TestOperatorsByDerivatives(t *testing.T) {
	var calls tally
	for _, two := range withSeries(44) {
		list, succeeds := bigsOf(two[1]).operated(two[0]).poly()
		got, ok := impl.OperateOn(two[0], two[1])
		wantPoly(t, "OperateOn", two, got, ok, list, succeeds)
		calls.count(ok)
	}
	calls.atLeast(t, 2000, 1000)
}

func TestFallingByDivision(t *testing.T) {
	var calls tally
	for _, p := range samplePolys(45) {
		same(t, "DifferencesAt", p, impl.DifferencesAt(p), bigsOf(p).differences().wholes())
		list, succeeds := bigsOf(p).falling().poly()
		got, ok := impl.ToFalling(p)
		wantPoly(t, "ToFalling", p, got, ok, list, succeeds)
		calls.count(ok)
	}
	calls.atLeast(t, 1000, 200)
}

// withSequences visits sequences, each with some polynomials of its length.
func withSequences(seed int64, visit func(list [][]int, p []int)) {
	polys := map[int][][]int{}
	for _, p := range samplePolys(seed) {
		polys[len(p)] = append(polys[len(p)], p)
	}
	for i, list := range sampleSequences(seed) {
		fitting := polys[len(list)]
		for step := range 3 {
			visit(list, fitting[(3*i+step)%len(fitting)])
		}
	}
}

func TestReplacedPowersByRows(t *testing.T) {
	var calls tally
	withSequences(46, func(list [][]int, p []int) {
		sum, succeeds := bigsOf(p).replaced(list).poly()
		got, ok := impl.ReplacePowers(p, list)
		wantPoly(t, "ReplacePowers", []any{p, list}, got, ok, sum, succeeds)
		calls.count(ok)
	})
	calls.atLeast(t, 500, 500)
}

// TestSequencesAreRows takes pairs with rows that are too great for a polynomial, too: their rows are returned all the same.
func TestSequencesAreRows(t *testing.T) {
	great := 0
	for _, p := range append(samplePairs(47), smallPairs(4)...) {
		rows := impl.SequenceOf(p)
		if want := pairCoefsOf(p).rows(); !sameRows(rows, want) {
			t.Fatalf("SequenceOf(%v) = %v; want %v", p, rows, want)
		}
		fits := !slices.ContainsFunc(rows, func(row []int) bool { return !impl.ValidPoly(row) })
		if impl.ValidSequence(rows) != fits {
			t.Fatalf("ValidSequence of SequenceOf(%v) is %v", p, !fits)
		}
		if !fits {
			great++
		}
	}
	atLeast(t, great, 50)
	for _, p := range noPairs() {
		if rows := impl.SequenceOf(p); rows != nil {
			t.Fatalf("SequenceOf(%v) = %v", p, rows)
		}
	}
}

// TestFallingProducts is for the promise 32.
func TestFallingProducts(t *testing.T) {
	for _, n := range append(beyond(), 0, -1, 7, 8, 100) {
		if list := impl.FallingProducts(n); list != nil {
			t.Errorf("FallingProducts(%d) = %v", n, list)
		}
	}
	for n := 1; n <= impl.MaxN+1; n++ {
		list := impl.FallingProducts(n)
		if len(list) != n || !impl.ValidSequence(list) || !impl.IsBinomial(list) {
			t.Fatalf("FallingProducts(%d) = %v", n, list)
		}
		product := bigsOf(unit(n))
		for k, p := range list {
			same(t, "FallingProducts", []int{n, k}, p, product.wholes())
			product = product.timesLinear(-k)
		}
		if n > 1 {
			cycles, _ := impl.NamedPair("cycles", n)
			rows := impl.ArrayOf(pairOf(unit(n), negative(impl.AlternateOf(cycles.F))))
			if !sameRows(list, rows) {
				t.Fatalf("FallingProducts(%d) = %v; want %v", n, list, rows)
			}
		}
	}
}

func TestBinomialByValues(t *testing.T) {
	binomial, others, steep := 0, 0, 0
	for _, list := range sampleSequences(48) {
		is := binomialByValues(list)
		if impl.IsBinomial(list) != is {
			t.Fatalf("IsBinomial(%v) is %v", list, !is)
		}
		if !is {
			others++
			continue
		}
		binomial++
		if last := list[len(list)-1]; slices.Max(last) > 1000 && last[len(last)-1] != 1 {
			steep++
		}
		checkSpoiled(t, list)
	}
	atLeast(t, binomial, 100)
	atLeast(t, others, 500)
	atLeast(t, steep, 10)
}

// checkSpoiled checks the sequences that differ from a binomial one by one number.
func checkSpoiled(t *testing.T, list [][]int) {
	t.Helper()
	for n := range list {
		for k := range n + 1 {
			for _, by := range []int{1, -1, 1000, -2 * list[n][k]} {
				spoiled := cloneRows(list)
				spoiled[n][k] += by
				is := impl.ValidSequence(spoiled) && binomialByValues(spoiled)
				if impl.IsBinomial(spoiled) != is {
					t.Fatalf("IsBinomial(%v) is %v", spoiled, !is)
				}
			}
		}
	}
}

func TestKnownBinomials(t *testing.T) {
	binomials := [][][]int{
		{{1}}, {{1, 0}, {0, 1}}, {{1, 0}, {0, -7}}, {{1, 0}, {0, 1000000}}, {{1, 0}, {0, -1000000}},
		{{1, 0, 0}, {0, 2, 0}, {0, 5, 4}}, {{1, 0, 0}, {0, 1000, 0}, {0, -1000000, 1000000}}, {{1, 0, 0}, {0, -1000, 0}, {0, 1000000, 1000000}},
		{{1, 0, 0, 0}, {0, 1, 0, 0}, {0, -1, 1, 0}, {0, 2, -3, 1}}, {{1, 0, 0, 0}, {0, -1, 0, 0}, {0, -2, 1, 0}, {0, -6, 6, -1}},
		unitRows(6),
	}
	for _, list := range binomials {
		if !impl.IsBinomial(list) {
			t.Errorf("IsBinomial(%v) is false", list)
		}
	}
	others := [][][]int{
		{{5}}, {{-1}}, {{2}}, {{1000000}}, {{-1, 0}, {0, 1}}, {{1, 0}, {1, 1}}, {{2, 0}, {0, 1}}, {{2, 0}, {0, 2}},
		{{1, 0, 0}, {0, 1, 0}, {1, 0, 1}}, {{1, 0, 0}, {0, 1, 0}, {0, 0, 2}}, {{1, 0, 0}, {0, 1, 0}, {0, 0, -1}}, {{1, 0, 0}, {0, 2, 0}, {0, 0, 2}},
		{{1, 0, 0, 0}, {0, 1, 0, 0}, {0, -1, 1, 0}, {0, 2, 3, 1}}, {{1, 0, 0, 0}, {0, 1, 0, 0}, {0, 1, 1, 0}, {0, 1, 2, 1}},
		{{1, 0, 0}, {0, 1000000, 0}, {0, 0, 1000000}},
	}
	for _, list := range others {
		if !impl.ValidSequence(list) {
			t.Errorf("ValidSequence(%v) is false", list)
		}
		if impl.IsBinomial(list) {
			t.Errorf("IsBinomial(%v) is true", list)
		}
	}
}

// TestShiftsByNothing is for the promise 24.
func TestShiftsByNothing(t *testing.T) {
	for _, p := range samplePolys(49) {
		got, ok := impl.ShiftPoly(p, 0)
		wantPoly(t, "ShiftPoly by 0", p, got, ok, p, true)
		if len(p) > 1 {
			got, ok = impl.ShiftPoly(cut(p), 0)
			wantPoly(t, "ShiftPoly by 0", cut(p), got, ok, cut(p), true)
		}
	}
}

// TestShiftsGoBack is for the promise 26.
func TestShiftsGoBack(t *testing.T) {
	operators := 0
	for _, p := range samplePolys(50) {
		for c := -impl.MaxPoint; c <= impl.MaxPoint; c++ {
			shifted, ok := impl.ShiftPoly(p, c)
			powers := repeated(1, len(p))
			for k := range powers[1:] {
				powers[k+1] = c * powers[k]
			}
			if impl.ValidSeries(powers) {
				operators++
				got, succeeds := impl.OperateOn(powers, p)
				wantPoly(t, "OperateOn with powers", []any{p, c}, got, succeeds, shifted, ok)
			}
			if ok {
				back, ok := impl.ShiftPoly(shifted, -c)
				wantPoly(t, "ShiftPoly back", []any{p, c}, back, ok, p, true)
			}
		}
	}
	atLeast(t, operators, 10000)
}

// TestOperatorsAreMultiplied is for the promise 27.
func TestOperatorsAreMultiplied(t *testing.T) {
	checked := 0
	last := map[int][]int{}
	for _, two := range withSeries(51) {
		f, p := two[0], two[1]
		g := last[len(f)]
		last[len(f)] = f
		product, ok := impl.MultiplySeries(f, g)
		if !ok {
			continue
		}
		both, ok := impl.OperateOn(product, p)
		for _, order := range [][2][]int{{f, g}, {g, f}} {
			if first, ok1 := impl.OperateOn(order[0], p); ok1 {
				checked++
				second, ok2 := impl.OperateOn(order[1], first)
				wantPoly(t, "OperateOn with a product", []any{f, g, p}, second, ok2, both, ok)
			}
		}
	}
	atLeast(t, checked, 3000)
}

// TestSequencesAreLedDown is for the promise 28.
func TestSequencesAreLedDown(t *testing.T) {
	checked, second := 0, 0
	for _, p := range append(samplePairs(52), smallPairs(4)...) {
		reverse, ok := impl.ReverseSeries(p.F)
		rows := impl.SequenceOf(p)
		if !ok || !impl.ValidSequence(rows) {
			continue
		}
		ahead := make([]int, len(rows))
		for n, row := range rows {
			for k := range ahead {
				ahead[k] *= n
			}
			if !impl.ValidPoly(ahead) {
				ahead = nil
			}
			got, ok := impl.OperateOn(reverse, row)
			wantPoly(t, "OperateOn with ReverseSeries", []any{p, n}, got, ok, ahead, ahead != nil)
			ahead = slices.Clone(row)
			checked++
			if row[n] == -1 && p.G[0] == -1 {
				second++
			}
		}
	}
	atLeast(t, checked, 5000)
	atLeast(t, second, 500)
}

// TestFirstPolynomials is for the promise 29.
func TestFirstPolynomials(t *testing.T) {
	checked := 0
	for _, list := range sampleSequences(53) {
		first := list[0]
		got, ok := impl.ReplacePowers(first, list)
		if !ok {
			continue
		}
		checked++
		times := make([]int, len(first))
		times[0] = first[0] * first[0]
		wantPoly(t, "ReplacePowers of the first one", list, got, ok, times, true)
	}
	atLeast(t, checked, 500)
}

// TestBinomialPairs is for the promise 30.
func TestBinomialPairs(t *testing.T) {
	with, without := 0, 0
	for _, p := range append(samplePairs(54), smallPairs(4)...) {
		one := unit(len(p.G))
		last, place := slices.Clone(one), slices.Clone(one)
		last[len(last)-1] -= 2
		place[len(place)/2]--
		for _, g := range [][]int{p.G, one, negative(one), last, place} {
			rows := impl.SequenceOf(pairOf(g, p.F))
			if !impl.ValidSequence(rows) {
				continue
			}
			is := slices.Equal(g, one)
			if impl.IsBinomial(rows) != is {
				t.Fatalf("IsBinomial of %v, the rows of %v and %v, is %v", rows, g, p.F, !is)
			}
			if is {
				with++
			} else {
				without++
			}
		}
	}
	atLeast(t, with, 1000)
	atLeast(t, without, 5000)
}

// TestReplacedRows is for the promise 31.
func TestReplacedRows(t *testing.T) {
	checked := 0
	for _, two := range append(twoPairs(samplePairs(55)), twoPairs(smallPairs(4))...) {
		rows, list := impl.SequenceOf(two[0]), impl.SequenceOf(two[1])
		product, ok := impl.MultiplyPairs(two[0], two[1])
		if !ok || !impl.ValidSequence(rows) || !impl.ValidSequence(list) {
			continue
		}
		for n, wanted := range impl.ArrayOf(product) {
			if !impl.ValidPoly(wanted) {
				wanted = nil
			}
			checked++
			got, ok := impl.ReplacePowers(rows[n], list)
			wantPoly(t, "ReplacePowers of rows", []any{two, n}, got, ok, wanted, wanted != nil)
		}
	}
	atLeast(t, checked, 5000)
}

// TestFallingIsReadBack is for the promises 33 and 34.
func TestFallingIsReadBack(t *testing.T) {
	checked := 0
	for _, p := range samplePolys(56) {
		differences := impl.DifferencesAt(p)
		if len(differences) != len(p) {
			t.Fatalf("DifferencesAt(%v) = %v", p, differences)
		}
		for x := range impl.MaxPoint + 1 {
			sum := 0
			for k, difference := range differences {
				sum += difference * sets(x, k)
			}
			if value, _ := impl.ValueOf(p, x); value != sum {
				t.Fatalf("ValueOf(%v, %d) = %d; the differences tell %d", p, x, value, sum)
			}
		}
		numbers, ok := impl.ToFalling(p)
		if !ok {
			continue
		}
		checked++
		back, ok := impl.ReplacePowers(numbers, impl.FallingProducts(len(p)))
		wantPoly(t, "ReplacePowers of ToFalling", p, back, ok, p, true)
		product := 1
		for k, number := range numbers {
			product *= max(1, k)
			if number*product != differences[k] {
				t.Fatalf("ToFalling(%v) = %v; DifferencesAt are %v", p, numbers, differences)
			}
		}
	}
	atLeast(t, checked, 1000)
}
