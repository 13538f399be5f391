package tests

import (
	"slices"
	"testing"

	"loop.example/shadowseries/impl"
)

// counter is a function that counts ways to part n things into k parts.
type counter struct {
	name string
	call func(n int, k int) int
}

func counters() []counter {
	return []counter{{"PartCount", impl.PartCount}, {"CycleCount", impl.CycleCount}, {"ListCount", impl.ListCount}}
}

// mergers are the functions of two ways to part things that return one.
func mergers() []binary {
	return []binary{{"MeetParts", impl.MeetParts}, {"JoinParts", impl.JoinParts}}
}

// eachTwoWays visits each two ways to part the same number of things, up to some number of them.
func eachTwoWays(most int, visit func(p []int, q []int)) {
	for n := range most + 1 {
		ways := everyWay(n)
		for _, p := range ways {
			for _, q := range ways {
				visit(p, q)
			}
		}
	}
}

// TestAllWays is for the promise 35, too.
func TestAllWays(t *testing.T) {
	for n := range impl.MaxN + 1 {
		all := impl.AllPartitions(n)
		if len(all) != impl.BellNumbers(impl.MaxN)[n] || !sameRows(all, everyWay(n)) {
			t.Fatalf("AllPartitions(%d) = %v", n, all)
		}
		if !slices.IsSortedFunc(all, slices.Compare) {
			t.Fatalf("AllPartitions(%d) = %v, which is not in order", n, all)
		}
		byParts := make([]int, n+1)
		for i, p := range all {
			if i > 0 && slices.Equal(p, all[i-1]) {
				t.Fatalf("AllPartitions(%d) has %v twice", n, p)
			}
			byParts[len(impl.PartSizes(p))]++
		}
		for k, count := range byParts {
			if impl.PartCount(n, k) != count {
				t.Fatalf("AllPartitions(%d) has %d of %d parts; PartCount is %d", n, count, k, impl.PartCount(n, k))
			}
		}
	}
	for _, n := range []int{-1, -2, 6, 7, 100, 1 << 32, 1<<63 - 1, -1 << 63} {
		if all := impl.AllPartitions(n); all != nil {
			t.Errorf("AllPartitions(%d) = %v", n, all)
		}
	}
}

// TestKnownWays has what the document says of no things, of one, and of the order.
func TestKnownWays(t *testing.T) {
	known := [][][]int{
		{{}},
		{{0}},
		{{0, 0}, {0, 1}},
		{{0, 0, 0}, {0, 0, 1}, {0, 1, 0}, {0, 1, 1}, {0, 1, 2}},
		{{0, 0, 0, 0}, {0, 0, 0, 1}, {0, 0, 1, 0}, {0, 0, 1, 1}, {0, 0, 1, 2}, {0, 1, 0, 0}, {0, 1, 0, 1}, {0, 1, 0, 2},
			{0, 1, 1, 0}, {0, 1, 1, 1}, {0, 1, 1, 2}, {0, 1, 2, 0}, {0, 1, 2, 1}, {0, 1, 2, 2}, {0, 1, 2, 3}},
	}
	for n, ways := range known {
		if all := impl.AllPartitions(n); !sameRows(all, ways) {
			t.Errorf("AllPartitions(%d) = %v", n, all)
		}
	}
	five := impl.AllPartitions(5)
	if first, last := five[0], five[51]; !slices.Equal(first, repeated(0, 5)) || !slices.Equal(last, ints(0, 1, 2, 3, 4)) {
		t.Errorf("AllPartitions(5) goes from %v to %v", first, last)
	}
}

// TestSizesAreOfAllThings is for the promise 36.
func TestSizesAreOfAllThings(t *testing.T) {
	for _, p := range waysUpTo(impl.MaxN) {
		got := impl.PartSizes(p)
		same(t, "PartSizes", p, got, sizes(p))
		sum := 0
		for _, size := range got {
			if size < 1 {
				t.Fatalf("PartSizes(%v) = %v", p, got)
			}
			sum += size
		}
		if sum != len(p) {
			t.Fatalf("PartSizes(%v) = %v, which are %d things", p, got, sum)
		}
	}
	same(t, "PartSizes", "no things", impl.PartSizes(nil), nil)
	same(t, "PartSizes", "one part of all", impl.PartSizes(repeated(0, 5)), ints(5))
	same(t, "PartSizes", "each thing apart", impl.PartSizes(ints(0, 1, 2, 3, 4)), repeated(1, 5))
	same(t, "PartSizes", "parts in order", impl.PartSizes(ints(0, 1, 1, 2, 1)), ints(1, 3, 1))
}

func TestListsThatAreNoWays(t *testing.T) {
	lists := noWays()
	atLeast(t, len(lists), 15000)
	for _, p := range lists {
		if got := impl.PartSizes(p); got != nil {
			t.Fatalf("PartSizes(%v) = %v", p, got)
		}
		if weight := impl.WeightOfParts(p); weight != 0 {
			t.Fatalf("WeightOfParts(%v) = %d", p, weight)
		}
		for _, f := range [][]int{{1}, repeated(1, len(p)+1), repeated(1, impl.MaxN+1)} {
			wantLabels(t, f, p, 0, false)
		}
		for _, q := range [][]int{p, make([]int, len(p)), make([]int, min(len(p), impl.MaxN)), ints(0, 1, 2, 3, 4), nil} {
			wantNoMerger(t, p, q)
			wantNoMerger(t, q, p)
		}
	}
}

// wantNoMerger checks the functions of two ways with lists of which one is none.
func wantNoMerger(t *testing.T, p []int, q []int) {
	t.Helper()
	if impl.IsFiner(p, q) {
		t.Fatalf("IsFiner(%v, %v) is true", p, q)
	}
	for _, m := range mergers() {
		got, ok := m.call(p, q)
		wantList(t, m.name, [2][]int{p, q}, got, ok, nil, false)
	}
}

func TestWaysOfTwoLengths(t *testing.T) {
	all := waysUpTo(impl.MaxN)
	for _, p := range all {
		for _, q := range all {
			if len(p) != len(q) {
				wantNoMerger(t, p, q)
			}
		}
	}
}

func wantLabels(t *testing.T, f []int, p []int, product int, succeeds bool) {
	t.Helper()
	if got, ok := impl.LabelCount(f, p); ok != succeeds || got != product {
		t.Fatalf("LabelCount(%v, %v) = %d, %v; want %d, %v", f, p, got, ok, product, succeeds)
	}
}

// TestLabelsBySizes takes series that are shorter than the ways, as long as they, and longer.
func TestLabelsBySizes(t *testing.T) {
	ways := waysUpTo(impl.MaxN)
	for _, f := range append(randomSeries(60, 1000), samples(60)[:700]...) {
		for _, p := range ways {
			if len(f) <= len(p) {
				wantLabels(t, f, p, 0, false)
				continue
			}
			product := 1
			for _, size := range sizes(p) {
				product *= f[size]
			}
			wantLabels(t, f, p, product, true)
		}
	}
	for _, f := range noSeries() {
		for _, p := range ways {
			wantLabels(t, f, p, 0, false)
		}
	}
}

func TestKnownLabels(t *testing.T) {
	wantLabels(t, ints(7), nil, 1, true)
	wantLabels(t, ints(0), nil, 1, true)
	wantLabels(t, nil, nil, 0, false)
	wantLabels(t, ints(7), ints(0), 0, false)
	wantLabels(t, ints(7, 5), ints(0), 5, true)
	wantLabels(t, ints(7, 5, -3), ints(0, 0), -3, true)
	wantLabels(t, ints(7, 5, -3), ints(0, 1), 25, true)
	wantLabels(t, ints(7, 5, -3), ints(0, 1, 0), 0, false)
	wantLabels(t, ints(7, 5, -3, 2), ints(0, 1, 0), -15, true)
	wantLabels(t, ints(0, 0, 0, 0, 0, 1), repeated(0, 5), 1, true)
	wantLabels(t, ints(0, 0, 0, 0, 1), repeated(0, 5), 0, false)
	wantLabels(t, repeated(600, 6), ints(0, 1, 2, 3, 4), 77760000000000, true)
	wantLabels(t, repeated(-600, 6), ints(0, 1, 2, 3, 4), -77760000000000, true)
	wantLabels(t, repeated(601, 6), ints(0, 1, 2, 3, 4), 0, false)
}

// TestLabelsAreMultiplied is for the promise 37.
func TestLabelsAreMultiplied(t *testing.T) {
	checked := 0
	for base := -impl.MaxCoefficient; base <= impl.MaxCoefficient; base++ {
		for count := 1; count <= impl.MaxN+1; count++ {
			powers := repeated(1, count)
			for k := range powers[1:] {
				powers[k+1] = base * powers[k]
			}
			if !impl.ValidSeries(powers) {
				break
			}
			for n, power := range powers {
				for _, p := range everyWay(n) {
					checked++
					wantLabels(t, powers, p, power, true)
				}
			}
		}
	}
	atLeast(t, checked, 2000)
}

func TestKnownSumsOverParts(t *testing.T) {
	sums := []known{
		{ints(5), ints(0), ints(5), true}, {ints(-600), ints(600), ints(-600), true}, {ints(0), ints(-7), ints(0), true},
		{ints(7, 3), ints(0, 4), ints(7, 12), true}, {ints(7, 24), ints(9, -25), ints(7, -600), true}, {ints(7, 24), ints(0, 26), nil, false},
		{repeated(1, 6), repeated(1, 6), ints(1, 1, 2, 5, 15, 52), true},
		{ints(0, 0, 1, 0), ints(5, 1, 1, 1), ints(0, 0, 1, 3), true}, {ints(0, 0, 1, 0), ints(-600, 1, 1, 1), ints(0, 0, 1, 3), true},
		{ints(0, 0, 1, 0, 0, 0), ints(600, 1, 1, 2, 6, 24), ints(0, 0, 1, 3, 11, 50), true},
		{ints(0, 1, -1, 2, -6, 24), repeated(1, 6), ints(0, 1, 0, 0, 0, 0), true},
		{repeated(600, 6), ints(600, 0, 0, 0, 0, 0), ints(600, 0, 0, 0, 0, 0), true},
		{repeated(600, 6), repeated(600, 6), nil, false}, {repeated(-600, 6), repeated(600, 6), nil, false}, {repeated(600, 6), repeated(-600, 6), nil, false},
		// too great by one, at the index 2 and at the last one
		{ints(0, 599, 1), ints(7, 1, 1), ints(0, 599, 600), true}, {ints(0, 600, 1), ints(7, 1, 1), nil, false},
		{ints(0, -599, -1), ints(7, 1, 1), ints(0, -599, -600), true}, {ints(0, -600, -1), ints(7, 1, 1), nil, false},
		{ints(0, 1, 1, 0, 0, 0), ints(3, 1, 0, 0, 120, 0), ints(0, 1, 1, 0, 120, 600), true},
		{ints(0, 1, 1, 0, 0, 0), ints(3, 1, 0, 0, 120, 1), nil, false}, {ints(0, 1, 1, 0, 0), ints(3, 1, 0, 0, 120), ints(0, 1, 1, 0, 120), true},
		// one summand is too great, the sum is not
		{ints(0, 1, 1), ints(0, 25, -25), ints(0, 25, 600), true}, {ints(0, 1, 1), ints(0, 25, -24), nil, false},
	}
	for _, k := range sums {
		got, ok := impl.SumOverParts(k.f, k.g)
		want(t, "SumOverParts", [2][]int{k.f, k.g}, got, ok, k.want, k.ok)
	}
}

func TestInvalidArgumentsOfSumsOverParts(t *testing.T) {
	for _, f := range noSeries() {
		for _, g := range [][]int{f, make([]int, len(f)), repeated(1, len(f)), line(6), {0}, nil} {
			got, ok := impl.SumOverParts(f, g)
			want(t, "SumOverParts", [2][]int{f, g}, got, ok, nil, false)
			got, ok = impl.SumOverParts(g, f)
			want(t, "SumOverParts", [2][]int{g, f}, got, ok, nil, false)
		}
	}
	for m := 1; m <= impl.MaxN+1; m++ {
		for n := 1; n <= impl.MaxN+1; n++ {
			if m != n {
				got, ok := impl.SumOverParts(make([]int, m), make([]int, n))
				want(t, "SumOverParts", [2]int{m, n}, got, ok, nil, false)
			}
		}
	}
}

// summed adds up over all ways what the document says, by AllPartitions, PartSizes and LabelCount.
func summed(f []int, g []int) ([]int, bool) {
	sums := make([]int, len(f))
	for n := range sums {
		for _, p := range impl.AllPartitions(n) {
			labels, _ := impl.LabelCount(g, p)
			sums[n] += f[len(impl.PartSizes(p))] * labels
		}
	}
	if !impl.ValidSeries(sums) {
		return nil, false
	}
	return sums, true
}

// TestSumsOverPartsAreComposed is for the promise 38.
func TestSumsOverPartsAreComposed(t *testing.T) {
	var calls tally
	for _, two := range append(pairsOf(samples(61)), pairsOf(startingWith(62, 1))...) {
		f, g := two[0], two[1]
		inner := slices.Clone(g)
		inner[0] = 0
		got, ok := impl.SumOverParts(f, g)
		calls.count(ok)
		list, succeeds := impl.ComposeSeries(f, inner)
		want(t, "SumOverParts, and ComposeSeries,", two, got, ok, list, succeeds)
		list, succeeds = coefsOf(f).of(coefsOf(inner)).numbers()
		want(t, "SumOverParts", two, got, ok, list, succeeds)
		list, succeeds = summed(f, g)
		want(t, "SumOverParts", two, got, ok, list, succeeds)
	}
	calls.atLeast(t, 3000, 1000)
}

func TestCountsOneByOne(t *testing.T) {
	for n := range impl.MaxN + 1 {
		parts, circles := make([]int, n+1), make([]int, n+1)
		for _, p := range everyWay(n) {
			parts[len(sizes(p))]++
		}
		for _, order := range orders(n) {
			circles[circlesOf(order)]++
		}
		for k := range n + 1 {
			for i, count := range []int{parts[k], circles[k], listsByCuts(n, k)} {
				if c := counters()[i]; c.call(n, k) != count {
					t.Errorf("%s(%d, %d) = %d; want %d", c.name, n, k, c.call(n, k), count)
				}
			}
		}
	}
}

func TestKnownCounts(t *testing.T) {
	tables := map[string][6][]int{
		"PartCount":  {{1}, {0, 1}, {0, 1, 1}, {0, 1, 3, 1}, {0, 1, 7, 6, 1}, {0, 1, 15, 25, 10, 1}},
		"CycleCount": {{1}, {0, 1}, {0, 1, 1}, {0, 2, 3, 1}, {0, 6, 11, 6, 1}, {0, 24, 50, 35, 10, 1}},
		"ListCount":  {{1}, {0, 1}, {0, 2, 1}, {0, 6, 6, 1}, {0, 24, 36, 12, 1}, {0, 120, 240, 120, 20, 1}},
	}
	for _, c := range counters() {
		for n, row := range tables[c.name] {
			for k, count := range row {
				if got := c.call(n, k); got != count {
					t.Errorf("%s(%d, %d) = %d; want %d", c.name, n, k, got, count)
				}
			}
		}
	}
}

func TestCountsOfOtherArguments(t *testing.T) {
	ends := []int{-1, -2, -6, 1 << 32, -1 << 32, 1<<63 - 1, -1 << 63}
	for _, c := range counters() {
		for _, n := range append(ends, 6, 7, 100) {
			for _, k := range append(ends, 0, 1, 5, 6, n) {
				if count := c.call(n, k); count != -1 {
					t.Errorf("%s(%d, %d) = %d", c.name, n, k, count)
				}
			}
		}
		for n := range impl.MaxN + 1 {
			for _, k := range append(ends, n+1, n+2, 6, 7) {
				if count := c.call(n, k); count != -1 {
					t.Errorf("%s(%d, %d) = %d", c.name, n, k, count)
				}
			}
		}
	}
}

// TestPartsAreCountedOneByOne is for the promise 39.
func TestPartsAreCountedOneByOne(t *testing.T) {
	for n := 1; n <= impl.MaxN; n++ {
		sum := 0
		for k := range n + 1 {
			count := 0
			if k > 0 {
				count += impl.PartCount(n-1, k-1)
			}
			if k < n {
				count += k * impl.PartCount(n-1, k)
			}
			if got := impl.PartCount(n, k); got != count {
				t.Errorf("PartCount(%d, %d) = %d; want %d", n, k, got, count)
			}
			sum += count
		}
		if sum != impl.BellNumbers(n)[n] {
			t.Errorf("PartCount of %d things is %d together", n, sum)
		}
	}
}

// between adds up, over all numbers from k to n, the products of two counts, and a sign.
func between(n int, k int, first counter, second counter, sign func(j int) int) int {
	sum := 0
	for j := k; j <= n; j++ {
		sum += sign(j) * first.call(n, j) * second.call(j, k)
	}
	return sum
}

// TestCirclesUndoParts is for the promise 40.
func TestCirclesUndoParts(t *testing.T) {
	parts, circles := counters()[0], counters()[1]
	for n := range impl.MaxN + 1 {
		for k := range n + 1 {
			wanted := 0
			if n == k {
				wanted = 1
			}
			signs := func(j int) int { return 1 - 2*((j-k)%2) }
			for _, two := range [][2]counter{{parts, circles}, {circles, parts}} {
				if sum := between(n, k, two[0], two[1], signs); sum != wanted {
					t.Errorf("the sum of %s times %s is %d from %d to %d", two[0].name, two[1].name, sum, k, n)
				}
			}
		}
	}
}

// TestListsAreCirclesOfParts is for the promise 41.
func TestListsAreCirclesOfParts(t *testing.T) {
	for n := range impl.MaxN + 1 {
		for k := range n + 1 {
			sum := between(n, k, counters()[1], counters()[0], func(int) int { return 1 })
			if got := impl.ListCount(n, k); got != sum {
				t.Errorf("ListCount(%d, %d) = %d; want %d", n, k, got, sum)
			}
		}
	}
}

// TestFinerByThings is for the promise 42, too.
func TestFinerByThings(t *testing.T) {
	checked := 0
	eachTwoWays(impl.MaxN, func(p []int, q []int) {
		is := impl.IsFiner(p, q)
		if is != finer(p, q) {
			t.Fatalf("IsFiner(%v, %v) is %v", p, q, is)
		}
		if both := is && impl.IsFiner(q, p); both != slices.Equal(p, q) {
			t.Fatalf("IsFiner of %v and %v is %v both ways", p, q, both)
		}
		if is {
			checked++
			got, ok := impl.MeetParts(p, q)
			wantList(t, "MeetParts", [2][]int{p, q}, got, ok, p, true)
		}
	})
	atLeast(t, checked, 400)
}

// TestFinerOnceMore is for the promise 42: what is finer than something finer is finer.
func TestFinerOnceMore(t *testing.T) {
	ways := everyWay(impl.MaxN - 1)
	for _, p := range ways {
		for _, q := range ways {
			for _, r := range ways {
				if impl.IsFiner(p, q) && impl.IsFiner(q, r) && !impl.IsFiner(p, r) {
					t.Fatalf("IsFiner(%v, %v) is false, with %v between", p, r, q)
				}
			}
		}
	}
}

func TestMergedByThings(t *testing.T) {
	ways := map[int][][]int{}
	for n := range impl.MaxN + 1 {
		ways[n] = everyWay(n)
	}
	eachTwoWays(impl.MaxN, func(p []int, q []int) {
		two := [2][]int{p, q}
		met, ok := impl.MeetParts(p, q)
		wantList(t, "MeetParts", two, met, ok, meetByThings(ways[len(p)], p, q), true)
		most, count := joinByParts(ways[len(p)], p, q)
		if count != 1 {
			t.Fatalf("%d ways have the most parts that %v are finer than", count, two)
		}
		joined, ok := impl.JoinParts(p, q)
		wantList(t, "JoinParts", two, joined, ok, most, true)
	})
}

// merged is a call with both results that the document tells.
type merged struct{ p, q, meet, join []int }

// TestKnownMergers has no things, one thing, one part of all, single things, and parts that cross.
func TestKnownMergers(t *testing.T) {
	all, single := repeated(0, 5), ints(0, 1, 2, 3, 4)
	list := []merged{
		{nil, nil, nil, nil}, {ints(0), ints(0), ints(0), ints(0)}, {ints(0, 0), ints(0, 1), ints(0, 1), ints(0, 0)},
		{all, single, single, all}, {all, all, all, all}, {single, single, single, single},
		{ints(0, 1, 0, 2, 1), all, ints(0, 1, 0, 2, 1), all}, {ints(0, 1, 0, 2, 1), single, single, ints(0, 1, 0, 2, 1)},
		{ints(0, 0, 1, 1), ints(0, 1, 0, 1), ints(0, 1, 2, 3), repeated(0, 4)}, {ints(0, 0, 1, 1), ints(0, 1, 1, 2), ints(0, 1, 2, 3), repeated(0, 4)},
		{ints(0, 1, 1, 0), ints(0, 1, 0, 1), ints(0, 1, 2, 3), repeated(0, 4)}, {ints(0, 0, 0, 1, 1), ints(0, 0, 1, 1, 1), ints(0, 0, 1, 2, 2), all},
		{ints(0, 1, 0, 2, 3), ints(0, 1, 2, 1, 3), single, ints(0, 1, 0, 1, 2)}, {ints(0, 0, 1, 2, 2), ints(0, 1, 1, 2, 3), single, ints(0, 0, 0, 1, 1)},
		// one after the other, all parts are linked, the first ones not until the end
		{ints(0, 0, 1, 1, 2), ints(0, 1, 1, 2, 2), single, all}, {ints(0, 1, 2, 1, 0), ints(0, 1, 0, 2, 2), single, all},
		{ints(0, 1, 2, 0, 1), ints(0, 1, 2, 2, 1), ints(0, 1, 2, 3, 1), ints(0, 1, 0, 0, 1)},
	}
	for _, m := range list {
		for _, two := range [][2][]int{{m.p, m.q}, {m.q, m.p}} {
			got, ok := impl.MeetParts(two[0], two[1])
			wantList(t, "MeetParts", two, got, ok, m.meet, true)
			got, ok = impl.JoinParts(two[0], two[1])
			wantList(t, "JoinParts", two, got, ok, m.join, true)
		}
	}
}

// TestMeetIsFinerThanBoth is for the promise 43.
func TestMeetIsFinerThanBoth(t *testing.T) {
	eachTwoWays(impl.MaxN, func(p []int, q []int) {
		two := [2][]int{p, q}
		met, _ := impl.MeetParts(p, q)
		if !impl.IsFiner(met, p) || !impl.IsFiner(met, q) {
			t.Fatalf("MeetParts of %v = %v, which is not finer than both", two, met)
		}
		other, ok := impl.MeetParts(q, p)
		wantList(t, "MeetParts the other way", two, other, ok, met, true)
		joined, _ := impl.JoinParts(p, q)
		back, ok := impl.MeetParts(p, joined)
		wantList(t, "MeetParts with JoinParts", two, back, ok, p, true)
		back, ok = impl.JoinParts(p, met)
		wantList(t, "JoinParts with MeetParts", two, back, ok, p, true)
	})
}

// TestJoinIsCoarserThanBoth is for the promise 44.
func TestJoinIsCoarserThanBoth(t *testing.T) {
	parts := func(way []int) int { return len(impl.PartSizes(way)) }
	more := 0
	eachTwoWays(impl.MaxN, func(p []int, q []int) {
		two := [2][]int{p, q}
		joined, _ := impl.JoinParts(p, q)
		if !impl.IsFiner(p, joined) || !impl.IsFiner(q, joined) {
			t.Fatalf("JoinParts of %v = %v, which is not coarser than both", two, joined)
		}
		other, ok := impl.JoinParts(q, p)
		wantList(t, "JoinParts the other way", two, other, ok, joined, true)
		met, _ := impl.MeetParts(p, q)
		together, both := parts(joined)+parts(met), parts(p)+parts(q)
		if together < both {
			t.Fatalf("JoinParts and MeetParts of %v have %d parts, and both have %d", two, together, both)
		}
		if together > both {
			more++
		}
	})
	atLeast(t, more, 100)
}

func TestWeightsByParts(t *testing.T) {
	for _, p := range waysUpTo(impl.MaxN) {
		if got, weight := impl.WeightOfParts(p), weightByParts(p); got != weight {
			t.Errorf("WeightOfParts(%v) = %d; want %d", p, got, weight)
		}
	}
	for n, weight := range []int{1, 1, -1, 2, -6, 24} {
		if got := impl.WeightOfParts(make([]int, n)); got != weight {
			t.Errorf("WeightOfParts of one part of %d things is %d; want %d", n, got, weight)
		}
	}
	if two, three := impl.WeightOfParts(ints(0, 0, 1, 1)), impl.WeightOfParts(ints(0, 0, 1, 1, 1)); two != 1 || three != -2 {
		t.Errorf("WeightOfParts of parts of 2 and 2 things is %d, of 2 and 3 things %d", two, three)
	}
}

// TestWeightsCancel is for the promise 45.
func TestWeightsCancel(t *testing.T) {
	for _, p := range waysUpTo(impl.MaxN) {
		sum, wanted := 0, 0
		for _, q := range impl.AllPartitions(len(p)) {
			if impl.IsFiner(q, p) {
				sum += impl.WeightOfParts(q)
			}
		}
		if len(impl.PartSizes(p)) == len(p) {
			wanted = 1
		}
		if sum != wanted {
			t.Errorf("the weights of all that is finer than %v are %d together", p, sum)
		}
	}
}
