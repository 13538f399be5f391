package tests

import (
	"slices"
	"testing"

	"loop.example/shadowseries/impl"
)

// roomy returns a copy of a list with spare capacity, and all of its memory.
func roomy(list []int) ([]int, []int) {
	memory := make([]int, len(list)+8)
	for i := range memory {
		memory[i] = 77 + i
	}
	copy(memory, list)
	return memory[:len(list)], memory
}

// overwrite spoils all the memory that a list reaches.
func overwrite(list []int, number int) {
	list = list[:cap(list)]
	for i := range list {
		list[i] = number
	}
}

// whole returns copies of lists with their spare capacity.
func whole(lists [][]int) [][]int {
	var all [][]int
	for _, list := range lists {
		all = append(all, slices.Clone(list[:cap(list)]))
	}
	return all
}

// checkMemory makes calls that must change no argument, and share no memory with them or with an earlier result,
// and of which no two lists of a result may share memory.
func checkMemory(t *testing.T, name string, call func(arguments [][]int) [][]int, arguments ...[]int) {
	t.Helper()
	var given, memories, before [][]int
	for _, a := range arguments {
		list, memory := roomy(a)
		given, memories, before = append(given, list), append(memories, memory), append(before, slices.Clone(memory))
	}
	lists := slices.Clone(given)
	unchanged := func(when string) {
		t.Helper()
		for i := range memories {
			if !slices.Equal(memories[i], before[i]) || len(given[i]) != len(lists[i]) || &given[i][:1][0] != &lists[i][:1][0] {
				t.Fatalf("%s of %v changes an argument %s", name, arguments, when)
			}
		}
	}
	first := call(given)
	unchanged("by the call")
	kept := cloneRows(first)
	for i := range first {
		expected := whole(first)
		overwrite(first[i], -12345-i)
		overwrite(expected[i], -12345-i)
		if !sameRows(whole(first), expected) {
			t.Fatalf("%s of %v = %v, of which two share memory", name, arguments, kept)
		}
	}
	unchanged("by its result")
	second := call(given)
	if !sameRows(second, kept) {
		t.Fatalf("%s of %v = %v, and then %v", name, arguments, kept, second)
	}
	for _, memory := range memories {
		overwrite(memory, -54321)
	}
	if !sameRows(second, kept) {
		t.Fatalf("%s of %v keeps memory of an argument", name, arguments)
	}
}

// one makes a result of one list of what a function of lists returns.
func one(call func(a [][]int) ([]int, bool)) func(a [][]int) [][]int {
	return func(a [][]int) [][]int {
		list, _ := call(a)
		return [][]int{list}
	}
}

func TestSeriesShareNoMemory(t *testing.T) {
	derive := unary{"DeriveSeries", func(f []int) ([]int, bool) { return impl.DeriveSeries(f), true }}
	read := unary{"SeriesText, ParseSeries", func(f []int) ([]int, bool) { return impl.ParseSeries(impl.SeriesText(f)) }}
	valid := unary{"ValidSeries", func(f []int) ([]int, bool) { return nil, impl.ValidSeries(f) }}
	lists := append(noSeries(), randomSeries(15, 200)...)
	for _, firsts := range [][]int{{0}, {1}, {-1}, {0, 1}, {0, -1}} {
		lists = append(lists, firsts, append(slices.Clone(firsts), 2, -3), append(slices.Clone(firsts), 0, 0))
	}
	for _, f := range lists {
		for _, u := range append(unaries(), derive, read, valid) {
			checkMemory(t, u.name, one(func(a [][]int) ([]int, bool) { return u.call(a[0]) }), f)
		}
		for _, b := range binaries() {
			call := one(func(a [][]int) ([]int, bool) { return b.call(a[0], a[1]) })
			// the unit, 0 and t give what is there already, and might give it out as it is
			checkMemory(t, b.name, call, f, f)
			checkMemory(t, b.name, call, f, make([]int, len(f)))
			checkMemory(t, b.name, call, make([]int, len(f)), f)
			if len(f) > 0 {
				checkMemory(t, b.name, call, f, unit(len(f)))
				checkMemory(t, b.name, call, f, line(len(f)))
			}
		}
	}
}

// ofPair makes lists of a pair that is a result.
func ofPair(p impl.Pair, _ bool) [][]int { return [][]int{p.G, p.F} }

// checkPairMemory checks all functions of the pairs p and q, and of a list.
func checkPairMemory(t *testing.T, p impl.Pair, q impl.Pair, h []int) {
	t.Helper()
	checkMemory(t, "ArrayOf", func(a [][]int) [][]int { return impl.ArrayOf(pairOf(a[0], a[1])) }, p.G, p.F)
	checkMemory(t, "ActOn", one(func(a [][]int) ([]int, bool) { return impl.ActOn(pairOf(a[0], a[1]), a[2]) }), p.G, p.F, h)
	checkMemory(t, "MultiplyPairs", func(a [][]int) [][]int {
		return ofPair(impl.MultiplyPairs(pairOf(a[0], a[1]), pairOf(a[2], a[3])))
	}, p.G, p.F, q.G, q.F)
	checkMemory(t, "InversePair", func(a [][]int) [][]int { return ofPair(impl.InversePair(pairOf(a[0], a[1]))) }, p.G, p.F)
	checkMemory(t, "ValidPair, IsMirror, RowSums", one(func(a [][]int) ([]int, bool) {
		r := pairOf(a[0], a[1])
		return impl.RowSums(r), impl.ValidPair(r) && impl.IsMirror(r)
	}), p.G, p.F)
	checkMemory(t, "StepsOf", func(a [][]int) [][]int {
		along, down, _ := impl.StepsOf(pairOf(a[0], a[1]))
		return [][]int{along, down}
	}, p.G, p.F)
	read := func(rows [][]int) [][]int { return ofPair(impl.PairOf(rows)) }
	checkMemory(t, "PairOf", read, impl.ArrayOf(p)...)
	if rows := impl.ArrayOf(p); rows != nil {
		checkMemory(t, "PairOf", read, changedRows(rows, len(rows))...)
	}
}

func TestPairsShareNoMemory(t *testing.T) {
	for i, two := range twoPairs(samplePairs(34)) {
		if i%3 == 0 {
			checkPairMemory(t, two[0], two[1], two[1].G)
		}
		if i%10 == 0 {
			// what changes nothing gives what is there already, and might give it out as it is
			checkPairMemory(t, two[0], impl.UnitPair(len(two[0].G)), two[0].F)
			checkPairMemory(t, impl.UnitPair(len(two[0].G)), two[0], two[0].F)
		}
	}
	for _, p := range noPairs() {
		checkPairMemory(t, p, p, p.G)
	}
	for count := range 9 {
		for _, name := range append(names(), "") {
			checkMemory(t, "NamedPair", func([][]int) [][]int { return ofPair(impl.NamedPair(name, count)) })
		}
		checkMemory(t, "UnitPair", func([][]int) [][]int { return ofPair(impl.UnitPair(count), true) })
	}
}

// ofPoly makes the functions of one polynomial that return one.
func ofPoly() []unary {
	list := []unary{
		{"ToFalling", impl.ToFalling},
		{"DifferencesAt", func(p []int) ([]int, bool) { return impl.DifferencesAt(p), true }},
		{"ValidPoly, ValueOf", func(p []int) ([]int, bool) {
			value, ok := impl.ValueOf(p, 2)
			return []int{value}, ok && impl.ValidPoly(p)
		}},
	}
	for _, c := range []int{0, 1, -impl.MaxPoint, impl.MaxPoint, impl.MaxPoint + 1} {
		list = append(list, unary{"ShiftPoly", func(p []int) ([]int, bool) { return impl.ShiftPoly(p, c) }})
	}
	return list
}

func TestPolynomialsShareNoMemory(t *testing.T) {
	for i, p := range append(noPolys(), samplePolys(36)...) {
		if i%5 != 0 {
			continue
		}
		for _, u := range ofPoly() {
			checkMemory(t, u.name, one(func(a [][]int) ([]int, bool) { return u.call(a[0]) }), p)
		}
		operate := one(func(a [][]int) ([]int, bool) { return impl.OperateOn(a[0], a[1]) })
		checkMemory(t, "OperateOn", operate, repeated(1, len(p)), p)
		checkMemory(t, "OperateOn", operate, p, p)
		if len(p) > 0 {
			// the unit changes nothing, and the polynomial might be given out as it is
			checkMemory(t, "OperateOn", operate, unit(len(p)), p)
		}
	}
	for _, two := range withSeries(37)[:500] {
		checkMemory(t, "OperateOn", one(func(a [][]int) ([]int, bool) { return impl.OperateOn(a[0], a[1]) }), two[0], two[1])
	}
}

// checkListMemory checks all functions of a list of polynomials, and of a polynomial.
func checkListMemory(t *testing.T, list [][]int, p []int) {
	t.Helper()
	checkMemory(t, "ValidSequence, IsBinomial", one(func(a [][]int) ([]int, bool) {
		return nil, impl.ValidSequence(a) && impl.IsBinomial(a)
	}), list...)
	checkMemory(t, "ReplacePowers", one(func(a [][]int) ([]int, bool) {
		return impl.ReplacePowers(a[0], a[1:])
	}), append([][]int{p}, list...)...)
}

func TestSequencesShareNoMemory(t *testing.T) {
	withSequences(38, func(list [][]int, p []int) {
		checkListMemory(t, list, p)
		checkListMemory(t, list, unit(len(list)))
		checkListMemory(t, unitRows(len(p)), p)
	})
	for _, list := range noSequences() {
		checkListMemory(t, list, make([]int, len(list)))
	}
	for i, p := range append(noPairs(), samplePairs(39)...) {
		if i%3 == 0 {
			checkMemory(t, "SequenceOf", func(a [][]int) [][]int { return impl.SequenceOf(pairOf(a[0], a[1])) }, p.G, p.F)
		}
	}
	for count := range 9 {
		checkMemory(t, "FallingProducts", func([][]int) [][]int { return impl.FallingProducts(count) })
	}
}

// TestOneListInManyPlaces gives one list as the series and the polynomial, and as more than one polynomial of a sequence.
func TestOneListInManyPlaces(t *testing.T) {
	for _, p := range samples(39) {
		list, memory := roomy(p)
		before := slices.Clone(memory)
		got, ok1 := impl.OperateOn(list, list)
		other, ok2 := impl.OperateOn(p, slices.Clone(p))
		wantPoly(t, "OperateOn twice", p, got, ok1, other, ok2)
		rows := slices.Repeat([][]int{list}, len(p))
		got, ok1 = impl.ReplacePowers(list, rows)
		other, ok2 = impl.ReplacePowers(p, cloneRows(rows))
		wantPoly(t, "ReplacePowers", p, got, ok1, other, ok2)
		if impl.IsBinomial(rows) != impl.IsBinomial(cloneRows(rows)) || !slices.Equal(memory, before) {
			t.Fatalf("%v in many places is changed", p)
		}
	}
}

// checkPartsMemory checks all functions of two ways to part things, and of a series.
func checkPartsMemory(t *testing.T, p []int, q []int, f []int) {
	t.Helper()
	checkMemory(t, "PartSizes, WeightOfParts", one(func(a [][]int) ([]int, bool) {
		return impl.PartSizes(a[0]), impl.WeightOfParts(a[0]) > 0
	}), p)
	checkMemory(t, "LabelCount", one(func(a [][]int) ([]int, bool) {
		product, ok := impl.LabelCount(a[0], a[1])
		return []int{product}, ok
	}), f, p)
	checkMemory(t, "IsFiner", one(func(a [][]int) ([]int, bool) { return nil, impl.IsFiner(a[0], a[1]) }), p, q)
	for _, m := range mergers() {
		checkMemory(t, m.name, one(func(a [][]int) ([]int, bool) { return m.call(a[0], a[1]) }), p, q)
	}
}

func TestPartsShareNoMemory(t *testing.T) {
	for n := -1; n < 9; n++ {
		checkMemory(t, "AllPartitions", func([][]int) [][]int { return impl.AllPartitions(n) })
	}
	eachTwoWays(impl.MaxN-1, func(p []int, q []int) {
		checkPartsMemory(t, p, q, repeated(2, len(p)+1))
	})
	for i, p := range everyWay(impl.MaxN) {
		for _, q := range [][]int{p, make([]int, len(p)), ints(0, 1, 2, 3, 4), everyWay(impl.MaxN)[(7*i+5)%52]} {
			checkPartsMemory(t, p, q, ints(0, 1, -1, 2, -6, 24))
			checkPartsMemory(t, q, p, ints(600, 2))
		}
	}
	for i, p := range noWays() {
		if i%20 == 0 {
			checkPartsMemory(t, p, p, p)
			checkPartsMemory(t, p, make([]int, len(p)), repeated(1, 6))
		}
	}
}

func TestSumsOverPartsShareNoMemory(t *testing.T) {
	call := one(func(a [][]int) ([]int, bool) { return impl.SumOverParts(a[0], a[1]) })
	for _, f := range append(noSeries(), randomSeries(63, 500)...) {
		checkMemory(t, "SumOverParts", call, f, f)
		checkMemory(t, "SumOverParts", call, f, line(max(1, len(f)))) // gives f as it is
		checkMemory(t, "SumOverParts", call, line(max(1, len(f))), f)
	}
}

// TestOneWayTwice gives one list as both ways to part things, and as the series and the way.
func TestOneWayTwice(t *testing.T) {
	for _, p := range append(waysUpTo(impl.MaxN), samples(64)...) {
		list, memory := roomy(p)
		before := slices.Clone(memory)
		for _, m := range append(mergers(), binary{"SumOverParts", impl.SumOverParts}) {
			got, ok1 := m.call(list, list)
			other, ok2 := m.call(p, slices.Clone(p))
			wantList(t, m.name+" twice", p, got, ok1, other, ok2)
		}
		product, ok := impl.LabelCount(list, list[:len(list)/2])
		wantLabels(t, p, p[:len(p)/2], product, ok)
		if impl.IsFiner(list, list) != impl.IsFiner(p, slices.Clone(p)) || !slices.Equal(memory, before) {
			t.Fatalf("%v twice is changed", p)
		}
	}
}

func TestTransformsShareNoMemory(t *testing.T) {
	hankel := unary{"HankelOf", func(f []int) ([]int, bool) { return impl.HankelOf(f), true }}
	for _, f := range append(noSeries(), samples(65)...) {
		for _, u := range append(ofList(), hankel) {
			checkMemory(t, u.name, one(func(a [][]int) ([]int, bool) { return u.call(a[0]) }), f)
		}
	}
	transform := one(func(a [][]int) ([]int, bool) { return impl.TransformBy(pairOf(a[0], a[1]), a[2]) })
	withLists(66, func(p impl.Pair, list []int) {
		checkMemory(t, "TransformBy", transform, p.G, p.F, list)
		checkMemory(t, "TransformBy", transform, unit(len(list)), line(len(list)), list) // gives the list as it is
	})
	for _, p := range noPairs() {
		checkMemory(t, "TransformBy", transform, p.G, p.F, p.G)
	}
	for _, s := range sequences() {
		for n := -1; n < 9; n++ {
			checkMemory(t, s.name, one(func([][]int) ([]int, bool) { return s.call(n), true }))
		}
	}
}

// TestOnePairTwice gives one pair as both arguments, and its series as the list.
func TestOnePairTwice(t *testing.T) {
	for _, p := range samplePairs(35) {
		g, memoryG := roomy(p.G)
		f, memoryF := roomy(p.F)
		beforeG, beforeF := slices.Clone(memoryG), slices.Clone(memoryF)
		two := pairOf(g, f)
		product, ok1 := impl.MultiplyPairs(two, two)
		other, ok2 := impl.MultiplyPairs(p, pairOf(slices.Clone(p.G), slices.Clone(p.F)))
		wantPair(t, "MultiplyPairs twice", p, product, ok1, other, ok2)
		for _, h := range [][]int{g, f} {
			list, ok1 := impl.ActOn(two, h)
			other, ok2 := impl.ActOn(p, slices.Clone(h))
			want(t, "ActOn", []any{p, h}, list, ok1, other, ok2)
			list, ok1 = impl.TransformBy(two, h)
			other, ok2 = impl.TransformBy(p, slices.Clone(h))
			want(t, "TransformBy", []any{p, h}, list, ok1, other, ok2)
		}
		if !slices.Equal(memoryG, beforeG) || !slices.Equal(memoryF, beforeF) {
			t.Fatalf("an argument of %v is changed", p)
		}
	}
}

// TestOneListTwice gives one list as both arguments.
func TestOneListTwice(t *testing.T) {
	for _, b := range binaries() {
		for _, f := range startingWith(16, 0) {
			list, memory := roomy(f)
			before := slices.Clone(memory)
			one, ok1 := b.call(list, list)
			other, ok2 := b.call(f, slices.Clone(f))
			if ok1 != ok2 || !slices.Equal(one, other) || !slices.Equal(memory, before) {
				t.Fatalf("%s of %v twice = %v, %v; want %v, %v", b.name, f, one, ok1, other, ok2)
			}
		}
	}
}
