package tests

import (
	"slices"
	"testing"

	"loop.example/shadowseries/impl"
)

// TestMaxEntry checks the constant, and that no second number of a row is as great.
func TestMaxEntry(t *testing.T) {
	if impl.MaxEntry != 1000000000 {
		t.Errorf("MaxEntry = %d", impl.MaxEntry)
	}
	for _, p := range samplePairs(20) {
		for _, row := range impl.ArrayOf(p) {
			if row[1] >= impl.MaxEntry || row[1] <= -impl.MaxEntry {
				t.Fatalf("ArrayOf(%v) has %d as second number of a row", p, row[1])
			}
		}
	}
}

func TestValidPair(t *testing.T) {
	for _, p := range append(samplePairs(21), smallPairs(4)...) {
		if !impl.ValidPair(p) {
			t.Fatalf("ValidPair(%v) is false", p)
		}
	}
	for _, p := range noPairs() {
		if impl.ValidPair(p) {
			t.Fatalf("ValidPair(%v) is true", p)
		}
	}
}

func TestInvalidPairs(t *testing.T) {
	for _, p := range noPairs() {
		if rows := impl.ArrayOf(p); rows != nil {
			t.Fatalf("ArrayOf(%v) = %v", p, rows)
		}
		if sums := impl.RowSums(p); sums != nil {
			t.Fatalf("RowSums(%v) = %v", p, sums)
		}
		if impl.IsMirror(p) {
			t.Fatalf("IsMirror(%v) is true", p)
		}
		got, ok := impl.InversePair(p)
		wantPair(t, "InversePair", p, got, ok, impl.Pair{}, false)
		wantNoSteps(t, p)
		for _, h := range [][]int{p.G, p.F, make([]int, len(p.G)), line(6)} {
			f, ok := impl.ActOn(p, h)
			want(t, "ActOn", p, f, ok, nil, false)
		}
		for count := 2; count <= impl.MaxN+1; count++ {
			q := impl.Pair{G: unit(count), F: line(count)}
			got, ok = impl.MultiplyPairs(p, q)
			wantPair(t, "MultiplyPairs", [2]impl.Pair{p, q}, got, ok, impl.Pair{}, false)
			got, ok = impl.MultiplyPairs(q, p)
			wantPair(t, "MultiplyPairs", [2]impl.Pair{q, p}, got, ok, impl.Pair{}, false)
		}
		got, ok = impl.MultiplyPairs(p, p)
		wantPair(t, "MultiplyPairs", p, got, ok, impl.Pair{}, false)
	}
}

// TestArgumentsOfTwoLengths gives pairs and series that are valid, but not of one length.
func TestArgumentsOfTwoLengths(t *testing.T) {
	for m := 2; m <= impl.MaxN+1; m++ {
		p := impl.Pair{G: unit(m), F: line(m)}
		for n := 1; n <= impl.MaxN+1; n++ {
			if m == n {
				continue
			}
			f, ok := impl.ActOn(p, unit(n))
			want(t, "ActOn", n, f, ok, nil, false)
			if n > 1 {
				got, ok := impl.MultiplyPairs(p, impl.Pair{G: unit(n), F: line(n)})
				wantPair(t, "MultiplyPairs", [2]int{m, n}, got, ok, impl.Pair{}, false)
			}
		}
	}
	for _, h := range noSeries() {
		for count := 2; count <= impl.MaxN+1; count++ {
			f, ok := impl.ActOn(impl.Pair{G: unit(count), F: line(count)}, h)
			want(t, "ActOn", h, f, ok, nil, false)
		}
	}
}

func TestArraysByFractions(t *testing.T) {
	great := 0
	for _, p := range samplePairs(22) {
		rows := pairCoefsOf(p).rows()
		if got := impl.ArrayOf(p); !sameRows(got, rows) {
			t.Fatalf("ArrayOf(%v) = %v; want %v", p, got, rows)
		}
		sums := make([]int, len(rows))
		for n, row := range rows {
			for _, number := range row {
				sums[n] += number
			}
			if slices.Max(row) > impl.MaxCoefficient {
				great++
			}
		}
		same(t, "RowSums", p, impl.RowSums(p), sums)
	}
	atLeast(t, great, 500)
}

func TestActOnByFractions(t *testing.T) {
	var calls tally
	for _, two := range twoPairs(samplePairs(23)) {
		p := two[0]
		for _, h := range [][]int{two[1].G, two[1].F, p.G} {
			list, succeeds := pairCoefsOf(p).act(coefsOf(h))
			got, ok := impl.ActOn(p, h)
			want(t, "ActOn", []any{p, h}, got, ok, list, succeeds)
			calls.count(ok)
		}
	}
	calls.atLeast(t, 1000, 500)
}

func TestProductsOfPairsByFractions(t *testing.T) {
	var calls tally
	for _, two := range twoPairs(samplePairs(24)) {
		product, succeeds := pairCoefsOf(two[0]).times(pairCoefsOf(two[1]))
		got, ok := impl.MultiplyPairs(two[0], two[1])
		wantPair(t, "MultiplyPairs", two, got, ok, product, succeeds)
		calls.count(ok)
	}
	calls.atLeast(t, 500, 500)
}

func TestInversesOfPairsByFractions(t *testing.T) {
	var calls tally
	for _, p := range samplePairs(25) {
		inverse, succeeds := pairCoefsOf(p).inverse()
		got, ok := impl.InversePair(p)
		wantPair(t, "InversePair", p, got, ok, inverse, succeeds)
		calls.count(ok)
	}
	calls.atLeast(t, 500, 300)
}

// steepPairs returns pairs of which ReverseSeries and InvertSeries often are valid, but not what StepsOf makes with them.
func steepPairs() []impl.Pair {
	var all []impl.Pair
	for second := 1; second <= 8; second++ {
		for third := -80; third <= 80; third += 8 {
			all = append(all, signed(ints(6, -3, -3), ints(second, third))...)
			all = append(all, signed(ints(2, -5, 4, 4), ints(-second, third, 5))...)
		}
	}
	return all
}

func TestStepsByFractions(t *testing.T) {
	succeeded, failed := 0, [5]int{}
	for _, p := range append(samplePairs(26), steepPairs()...) {
		if len(p.G) < 3 {
			wantNoSteps(t, p)
			continue
		}
		lists := pairCoefsOf(p).steps()
		missing := slices.IndexFunc(lists[:], func(list []int) bool { return list == nil })
		if missing >= 0 {
			failed[missing]++
			wantNoSteps(t, p)
			continue
		}
		succeeded++
		along, down, ok := impl.StepsOf(p)
		want(t, "StepsOf, the first one", p, along, ok, lists[3], true)
		want(t, "StepsOf, the second one", p, down, ok, lists[4], true)
	}
	atLeast(t, succeeded, 500)
	for _, count := range failed {
		atLeast(t, count, 5)
	}
}

func wantNoSteps(t *testing.T, p impl.Pair) {
	t.Helper()
	if along, down, ok := impl.StepsOf(p); ok || along != nil || down != nil {
		t.Fatalf("StepsOf(%v) = %v, %v, %v", p, along, down, ok)
	}
}

func pairOf(g []int, f []int) impl.Pair { return impl.Pair{G: g, F: f} }

// TestLimitsOfPairs has pairs of which one step on the way is just valid, or not.
func TestLimitsOfPairs(t *testing.T) {
	acts := []struct {
		p    impl.Pair
		h    []int
		want []int
	}{
		{pairOf(ints(1, 0), ints(0, 1)), ints(600, -600), ints(600, -600)},
		{pairOf(ints(-1, 1), ints(0, -1)), ints(1, 600), nil},
		{pairOf(ints(-1, 0), ints(0, -1)), ints(1, 600), ints(-1, 600)},
		{pairOf(ints(1, 1), ints(0, 1)), ints(-1, 600), ints(-1, 599)},
		{pairOf(ints(1, 1), ints(0, 1)), ints(1, 600), nil},
		// h of F is too great, the product is not
		{pairOf(ints(1, -1, 0), ints(0, 1, 600)), ints(0, 1, 2), nil},
		{pairOf(ints(1, -1, 0), ints(0, 1, 598)), ints(0, 1, 2), ints(0, 1, 598)},
	}
	for _, a := range acts {
		got, ok := impl.ActOn(a.p, a.h)
		want(t, "ActOn", []any{a.p, a.h}, got, ok, a.want, a.want != nil)
	}
	products := []struct{ p, q, want impl.Pair }{
		{pairOf(ints(1, 0, 0), ints(0, 1, 300)), pairOf(ints(1, 0, 0), ints(0, 1, 300)), pairOf(ints(1, 0, 0), ints(0, 1, 600))},
		{pairOf(ints(1, 0, 0), ints(0, 1, 300)), pairOf(ints(1, 0, 0), ints(0, 1, 301)), impl.Pair{}},
		{pairOf(ints(1, 300), ints(0, 1)), pairOf(ints(1, 300), ints(0, 1)), pairOf(ints(1, 600), ints(0, 1))},
		{pairOf(ints(1, 300), ints(0, 1)), pairOf(ints(1, 301), ints(0, 1)), impl.Pair{}},
		{pairOf(ints(-1, 1), ints(0, -1)), pairOf(ints(-1, 1), ints(0, -1)), pairOf(ints(1, 0), ints(0, 1))},
		{pairOf(ints(1, 2, 0), ints(0, 1, 1)), pairOf(ints(1, 0, 1), ints(0, -1, 3)), pairOf(ints(1, 2, 1), ints(0, -1, 2))},
	}
	for _, c := range products {
		got, ok := impl.MultiplyPairs(c.p, c.q)
		wantPair(t, "MultiplyPairs", []impl.Pair{c.p, c.q}, got, ok, c.want, c.want.G != nil)
	}
	inverses := []struct{ p, want impl.Pair }{
		{pairOf(ints(1, 600), ints(0, 1)), pairOf(ints(1, -600), ints(0, 1))},
		{pairOf(ints(-1, 600), ints(0, -1)), pairOf(ints(-1, 600), ints(0, -1))},
		{pairOf(ints(1, 0, 0), ints(0, 1, 600)), pairOf(ints(1, 0, 0), ints(0, 1, -600))},
		{pairOf(ints(1, 17, -22), ints(0, 1, 0)), pairOf(ints(1, -17, 600), ints(0, 1, 0))},
		{pairOf(ints(1, 17, -23), ints(0, 1, 0)), impl.Pair{}},
		// InvertSeries has 601 for the last number, the inverse 599
		{pairOf(ints(1, 1, -599), ints(0, 1, -2)), impl.Pair{}},
		{pairOf(ints(1, 1, -598), ints(0, 1, -2)), pairOf(ints(1, -1, 598), ints(0, 1, 2))},
		// InvertSeries has 600, the inverse 601
		{pairOf(ints(1, 1, -598), ints(0, 1, 1)), impl.Pair{}},
		// ReverseSeries alone is too great
		{pairOf(ints(1, 0, 0, 0), ints(0, 1, 14, -13)), impl.Pair{}},
		{pairOf(ints(1, 0, 0, 0), ints(0, 1, 14, -12)), pairOf(ints(1, 0, 0, 0), ints(0, 1, -14, 600))},
	}
	for _, c := range inverses {
		got, ok := impl.InversePair(c.p)
		wantPair(t, "InversePair", c.p, got, ok, c.want, c.want.G != nil)
	}
}

// TestLimitsOfSteps has pairs of which one step on the way is just valid, or not.
func TestLimitsOfSteps(t *testing.T) {
	cases := []struct {
		p           impl.Pair
		along, down []int
	}{
		{pairOf(ints(1, 0, 0), ints(0, 1, 0)), ints(1, 0), ints(0, 0)},
		{pairOf(ints(1, 0, 0), ints(0, -1, 0)), ints(-1, 0), ints(0, 0)},
		{pairOf(ints(1, 1, 1), ints(0, -1, 2)), ints(-1, -2), ints(1, 0)},
		{pairOf(ints(-1, 1, 1), ints(0, 1, 600)), ints(1, 600), ints(-1, -2)},
		// the last number of ReverseSeries, which is left out, is too great
		{pairOf(ints(1, 0, 0, 0), ints(0, 1, 14, -13)), nil, nil},
		{pairOf(ints(1, 0, 0, 0), ints(0, 1, 14, -12)), ints(1, 14, -208), ints(0, 0, 0)},
		// InvertSeries of all numbers would be too great, but the last one isn't needed
		{pairOf(ints(1, 25, 25), ints(0, 1, 0)), ints(1, 0), ints(25, -600)},
		{pairOf(ints(1, 25, 24), ints(0, 1, 0)), nil, nil},
		{pairOf(ints(1, 0, 600), ints(0, 1, 0)), ints(1, 0), ints(0, 600)},
		// one of both results alone is too great
		{pairOf(ints(1, 4, 11, -6, -1), ints(0, 1, -6, 49, 77)), nil, nil},
		{pairOf(ints(1, 6, -3, -3), ints(0, 1, 5, -27)), nil, nil},
	}
	for _, c := range cases {
		if c.along == nil {
			wantNoSteps(t, c.p)
			continue
		}
		along, down, ok := impl.StepsOf(c.p)
		want(t, "StepsOf, the first one", c.p, along, ok, c.along, true)
		want(t, "StepsOf, the second one", c.p, down, ok, c.down, true)
	}
}

func TestNamedPairs(t *testing.T) {
	wanted := map[string]impl.Pair{
		"pascal":     pairOf(ints(1, 1, 1, 1, 1, 1), ints(0, 1, 0, 0, 0, 0)),
		"partitions": pairOf(ints(1, 0, 0, 0, 0, 0), ints(0, 1, 1, 1, 1, 1)),
		"cycles":     pairOf(ints(1, 0, 0, 0, 0, 0), ints(0, 1, 1, 2, 6, 24)),
		"lists":      pairOf(ints(1, 0, 0, 0, 0, 0), ints(0, 1, 2, 6, 24, 120)),
	}
	sums := map[string][]int{
		"pascal":     ints(1, 2, 4, 8, 16, 32),
		"partitions": ints(1, 1, 2, 5, 15, 52),
		"cycles":     ints(1, 1, 2, 6, 24, 120),
		"lists":      ints(1, 1, 3, 13, 73, 501),
	}
	numbers := []int{-1 << 63, -6, -1, 0, 1, 2, 3, 4, 5, 6, 7, 8, 1 << 40, 1<<63 - 1}
	for _, n := range numbers {
		for _, name := range names() {
			var p impl.Pair
			if succeeds := 2 <= n && n <= 6; succeeds {
				p = pairOf(wanted[name].G[:n], wanted[name].F[:n])
				same(t, "RowSums of "+name, n, impl.RowSums(p), sums[name][:n])
			}
			got, ok := impl.NamedPair(name, n)
			wantPair(t, "NamedPair", []any{name, n}, got, ok, p, p.G != nil)
		}
		for _, name := range []string{"", " ", "Pascal", "PASCAL", "pascal ", " pascal", "pasca", "pascals", "pascal\n", "pascal\x00",
			"partition", "cycle", "list", "sets", "unit", "mirror", "partitions,cycles", "\xff", "0"} {
			got, ok := impl.NamedPair(name, n)
			wantPair(t, "NamedPair", []any{name, n}, got, ok, impl.Pair{}, false)
		}
	}
}

// changedRows returns rows with the number at a place changed.
func changedRows(rows [][]int, place int) [][]int {
	changed := cloneRows(rows)
	n, k := place/len(rows), place%len(rows)
	numbers := []int{0, 1, -1, -rows[n][k], rows[n][k] + 1, rows[n][k] - 1, rows[n][k] + 2, 600, 601, -601,
		impl.MaxEntry, -impl.MaxEntry, impl.MaxEntry + 1, rows[n][k] + 1<<32, rows[n][k] ^ -1<<63, -1 << 63, 1<<63 - 1}
	changed[n][k] = numbers[(place*7+rows[len(rows)-1][0]&15)%len(numbers)]
	return changed
}

// TestRowsThatAreNoArray is for the promises 14 and 20: rows are read exactly if the pair of their first columns has them.
func TestRowsThatAreNoArray(t *testing.T) {
	none := [][][]int{
		nil, {}, {{}}, {nil}, {{1}}, {{-1}}, {{0}}, {nil, nil}, {{}, {}}, {{1, 0}}, {{1}, {0}}, {{1, 0}, nil}, {nil, {0, 1}}, {{1, 0}, {0}}, {{1}, {0, 1}},
		{{1, 0, 0}, {0, 1, 0}}, {{1, 0}, {0, 1}, {0, 0}}, {{1, 0}, {0, 1, 0}}, {{1, 0, 0}, {0, 1}}, {{1, 0}, {0, 1}, nil},
		{{0, 0}, {0, 0}}, {{0, 0}, {0, 1}}, {{2, 0}, {0, 1}}, {{2, 0}, {0, 2}}, {{-2, 0}, {0, 2}}, {{1, 0}, {0, 0}}, {{1, 0}, {0, 2}}, {{1, 0}, {0, -2}},
		{{1, 1}, {0, 1}}, {{1, -1}, {0, 1}}, {{1, 0}, {601, 1}}, {{1, 0}, {-601, 1}}, {{0, 1}, {1, 0}},
		{{1, 0, 0}, {0, 1, 1}, {0, 0, 1}}, {{1, 0, 1}, {0, 1, 0}, {0, 0, 1}}, {{1, 0, 0}, {0, 1, 0}, {0, 601, 1}}, {{1, 0, 0}, {0, 1, 0}, {0, 0, -1}},
		{{1, 0, 0}, {1, 1, 0}, {1, 3, 2}}, {{-1, 0, 0}, {0, -1, 0}, {0, 0, 1}}, {{1, 0, 0}, {0, -1, 0}, {0, 0, -1}},
		{{1, 0}, {1<<63 - 1, 1}}, {{1<<63 - 1, 0}, {0, 1}}, {{-1 << 63, 0}, {0, 1}}, {{1, 0}, {0, -1 << 63}}, {{1, -1 << 63}, {0, 1}},
		unitRows(7), unitRows(1), unitRows(100), unitRows(6)[:5], append(unitRows(6), make([]int, 6)),
	}
	for _, rows := range none {
		got, ok := impl.PairOf(rows)
		wantPair(t, "PairOf", rows, got, ok, impl.Pair{}, false)
	}
	succeeded, failed := 0, 0
	for i, p := range samplePairs(27) {
		rows := impl.ArrayOf(p)
		if i%3 != 0 && len(rows) > 2 {
			continue
		}
		for place := range len(rows) * len(rows) {
			changed := changedRows(rows, place)
			p, succeeds := pairByColumns(changed)
			got, ok := impl.PairOf(changed)
			wantPair(t, "PairOf", changed, got, ok, p, succeeds)
			if !ok {
				failed++
				continue
			}
			succeeded++
			if back := impl.ArrayOf(got); !sameRows(back, changed) {
				t.Fatalf("ArrayOf PairOf of %v = %v", changed, back)
			}
		}
	}
	atLeast(t, succeeded, 500)
	atLeast(t, failed, 5000)
}

// TestPairsWithTheUnit is for the promise 13.
func TestPairsWithTheUnit(t *testing.T) {
	for _, p := range append(samplePairs(28), smallPairs(4)...) {
		one := impl.UnitPair(len(p.G))
		got, ok := impl.MultiplyPairs(p, one)
		wantPair(t, "MultiplyPairs with the unit", p, got, ok, p, true)
		got, ok = impl.MultiplyPairs(one, p)
		wantPair(t, "MultiplyPairs of the unit", p, got, ok, p, true)
		list, ok := impl.ActOn(one, p.F)
		want(t, "ActOn of the unit", p, list, ok, p.F, true)
	}
}

// TestTriangles is for the promise 14.
func TestTriangles(t *testing.T) {
	great := 0
	for _, p := range append(samplePairs(29), smallPairs(4)...) {
		rows := impl.ArrayOf(p)
		if len(rows) != len(p.G) {
			t.Fatalf("ArrayOf(%v) has %d rows", p, len(rows))
		}
		for n, row := range rows {
			if len(row) != len(p.G) {
				t.Fatalf("ArrayOf(%v) has %d numbers in a row", p, len(row))
			}
			if row[n] != 1 && row[n] != -1 {
				t.Fatalf("ArrayOf(%v) has %d on the diagonal", p, row[n])
			}
			for _, number := range row[n+1:] {
				if number != 0 {
					t.Fatalf("ArrayOf(%v) has %d above the diagonal", p, number)
				}
			}
			if slices.Max(row) > impl.MaxEntry {
				great++
			}
		}
		got, ok := impl.PairOf(rows)
		wantPair(t, "PairOf ArrayOf", p, got, ok, p, true)
	}
	atLeast(t, great, 3)
}

// TestProductsOfArrays is for the promise 16.
func TestProductsOfArrays(t *testing.T) {
	checked := 0
	for _, two := range append(twoPairs(samplePairs(30)), twoPairs(smallPairs(4))...) {
		product, ok := impl.MultiplyPairs(two[0], two[1])
		if !ok {
			continue
		}
		checked++
		rows := multiplyRows(impl.ArrayOf(two[0]), impl.ArrayOf(two[1]))
		if got := impl.ArrayOf(product); !sameRows(got, rows) {
			t.Fatalf("ArrayOf MultiplyPairs of %v = %v; want %v", two, got, rows)
		}
	}
	atLeast(t, checked, 5000)
}

// TestUnitPairs is for the promise 17.
func TestUnitPairs(t *testing.T) {
	for _, n := range []int{-1 << 63, -2, -1, 0, 1, 7, 8, 100, 1 << 40, 1<<63 - 1} {
		if p := impl.UnitPair(n); p.G != nil || p.F != nil {
			t.Errorf("UnitPair(%d) = %v", n, p)
		}
	}
	for n := 2; n <= impl.MaxN+1; n++ {
		p := impl.UnitPair(n)
		wantPair(t, "UnitPair", n, p, true, pairOf(unit(n), line(n)), true)
		if rows := impl.ArrayOf(p); !sameRows(rows, unitRows(n)) {
			t.Errorf("ArrayOf UnitPair(%d) = %v", n, rows)
		}
		if !impl.IsMirror(p) {
			t.Errorf("IsMirror of UnitPair(%d) is false", n)
		}
		got, ok := impl.InversePair(p)
		wantPair(t, "InversePair of UnitPair", n, got, ok, p, true)
		same(t, "RowSums of UnitPair", n, impl.RowSums(p), repeated(1, n))
	}
}

// conjugated returns the mirrors p, m and the inverse of p, multiplied, for mirrors m with both signs.
func conjugated(p impl.Pair) []impl.Pair {
	var all []impl.Pair
	inverse, ok := impl.InversePair(p)
	if !ok {
		return nil
	}
	for _, s := range signs {
		m := impl.UnitPair(len(p.G))
		m.G[0], m.F[1] = s[0], s[1]
		if left, ok := impl.MultiplyPairs(p, m); ok {
			if mirror, ok := impl.MultiplyPairs(left, inverse); ok {
				all = append(all, mirror)
			}
		}
	}
	return all
}

// TestMirrors is for the promise 19.
func TestMirrors(t *testing.T) {
	mirrors, others := map[int]int{}, 0
	pairs := append(samplePairs(31), smallPairs(4)...)
	for _, p := range samplePairs(32) {
		for _, mirror := range conjugated(p) {
			pairs = append(pairs, mirror)
		}
	}
	for _, p := range pairs {
		inverse, ok := impl.InversePair(p)
		is := ok && samePair(inverse, p)
		if impl.IsMirror(p) != is {
			t.Fatalf("IsMirror(%v) is %v, InversePair is %v", p, !is, inverse)
		}
		rows := impl.ArrayOf(p)
		_, ok = impl.MultiplyPairs(p, p)
		if own := ok && sameRows(multiplyRows(rows, rows), unitRows(len(rows))); own != is {
			t.Fatalf("IsMirror(%v) is %v, and that the array is its own inverse %v", p, is, own)
		}
		if is {
			mirrors[len(p.G)]++
		} else {
			others++
		}
	}
	for count := 2; count <= impl.MaxN+1; count++ {
		atLeast(t, mirrors[count], 20)
	}
	atLeast(t, others, 5000)
}

// TestKnownMirrors has mirrors with both signs at both places, and pairs that miss one by a little.
func TestKnownMirrors(t *testing.T) {
	mirrors := []impl.Pair{
		pairOf(ints(-1, 0), ints(0, 1)), pairOf(ints(1, 0), ints(0, -1)), pairOf(ints(-1, 0), ints(0, -1)),
		pairOf(ints(1, 600), ints(0, -1)), pairOf(ints(-1, -600), ints(0, -1)),
		pairOf(ints(1, 0, 0), ints(0, -1, 600)), pairOf(ints(-1, 0, 0, 0, 0, 0), ints(0, 1, 0, 0, 0, 0)),
		pairOf(ints(1, 1, 1, 1, 1, 1), ints(0, -1, 0, 0, 0, 0)), pairOf(ints(-1, 2, -4, 8, -16, 32), ints(0, -1, 0, 0, 0, 0)),
		pairOf(ints(1, 0, 0, 0, 0, 0), ints(0, -1, -2, -6, -24, -120)), pairOf(ints(1, 0, 0, 0, 0), ints(0, -1, 0, 0, 600)),
	}
	for _, p := range mirrors {
		if !impl.IsMirror(p) {
			t.Errorf("IsMirror(%v) is false", p)
		}
	}
	others := []impl.Pair{
		pairOf(ints(1, 1), ints(0, 1)), pairOf(ints(-1, 1), ints(0, 1)), pairOf(ints(1, 0, 0), ints(0, 1, 1)), pairOf(ints(1, 0, 1), ints(0, -1, 0)),
		pairOf(ints(1, 0, 0, 0, 0, 1), ints(0, 1, 0, 0, 0, 0)), pairOf(ints(1, 0, 0, 0, 0, 0), ints(0, -1, 0, 0, 0, 1)),
		pairOf(ints(1, 0, 0, 0, 0, 0), ints(0, -1, 1, -1, 1, -1)), pairOf(ints(-1, 0, 1), ints(0, -1, 0)),
		// the array is its own inverse, but G with F in the place of t is too great
		pairOf(ints(1, 18, 18), ints(0, -1, 34)),
	}
	for _, p := range others {
		if impl.IsMirror(p) {
			t.Errorf("IsMirror(%v) is true", p)
		}
	}
}

// TestRowsLeadToRows is for the promise 23.
func TestRowsLeadToRows(t *testing.T) {
	checked := 0
	for _, p := range append(samplePairs(33), smallPairs(4)...) {
		along, down, ok := impl.StepsOf(p)
		if !ok {
			continue
		}
		checked++
		if len(along) != len(p.G)-1 || len(down) != len(p.G)-1 {
			t.Fatalf("StepsOf(%v) = %v, %v", p, along, down)
		}
		rows := impl.ArrayOf(p)
		for n := range len(rows) - 1 {
			same(t, "the next row", p, nextRow(rows[n], along, down), rows[n+1])
		}
	}
	atLeast(t, checked, 5000)
}

// nextRow adds up what each number of a row gives to those of the next one: the numbers of one series from the place
// behind it on backwards, and of the other one from its own place on.
func nextRow(row []int, along []int, down []int) []int {
	next := make([]int, len(row))
	for m, number := range row[:len(row)-1] {
		for j := range m + 1 {
			next[m-j] += number * down[j] * sets(m, j)
			next[m-j+1] += number * along[j] * sets(m, j)
		}
	}
	return next
}

// sets is the number of sets of k of n things, by Pascal's rule.
func sets(n int, k int) int {
	if k < 0 || k > n {
		return 0
	}
	if k == 0 {
		return 1
	}
	return sets(n-1, k-1) + sets(n-1, k)
}
