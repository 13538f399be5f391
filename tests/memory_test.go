package tests

import (
	"slices"
	"testing"

	"loop.example/shadowseries/impl"
)

// roomy returns a copy of a list with spare capacity, and all of its memory.
func roomy(list []int) ([]int, []int) {
	memory := make([]int, len(list)+8)
	for i := range memory {
		memory[i] = 77 + i
	}
	copy(memory, list)
	return memory[:len(list)], memory
}

// overwrite spoils all the memory that a result reaches.
func overwrite(list []int) {
	list = list[:cap(list)]
	for i := range list {
		list[i] = -12345
	}
}

// checkMemory makes a call three times: it must change no argument, and share no memory with them or with an earlier result.
func checkMemory(t *testing.T, name string, call func(arguments [][]int) []int, arguments ...[]int) {
	t.Helper()
	var given, memories, before [][]int
	for _, a := range arguments {
		list, memory := roomy(a)
		given, memories, before = append(given, list), append(memories, memory), append(before, slices.Clone(memory))
	}
	unchanged := func(when string) {
		t.Helper()
		for i := range memories {
			if !slices.Equal(memories[i], before[i]) {
				t.Fatalf("%s of %v changes an argument %s", name, arguments, when)
			}
		}
	}
	first := call(given)
	unchanged("by the call")
	kept := slices.Clone(first)
	overwrite(first)
	unchanged("by its result")
	second := call(given)
	if !slices.Equal(second, kept) {
		t.Fatalf("%s of %v = %v, and then %v", name, arguments, kept, second)
	}
	for _, memory := range memories {
		overwrite(memory)
	}
	if !slices.Equal(second, kept) {
		t.Fatalf("%s of %v keeps memory of an argument", name, arguments)
	}
}

func TestSeriesShareNoMemory(t *testing.T) {
	derive := unary{"DeriveSeries", func(f []int) ([]int, bool) { return impl.DeriveSeries(f), true }}
	read := unary{"SeriesText, ParseSeries", func(f []int) ([]int, bool) { return impl.ParseSeries(impl.SeriesText(f)) }}
	valid := unary{"ValidSeries", func(f []int) ([]int, bool) { return nil, impl.ValidSeries(f) }}
	lists := append(noSeries(), randomSeries(15, 200)...)
	for _, firsts := range [][]int{{0}, {1}, {-1}, {0, 1}, {0, -1}} {
		lists = append(lists, firsts, append(slices.Clone(firsts), 2, -3), append(slices.Clone(firsts), 0, 0))
	}
	for _, f := range lists {
		for _, u := range append(unaries(), derive, read, valid) {
			checkMemory(t, u.name, func(a [][]int) []int {
				got, _ := u.call(a[0])
				return got
			}, f)
		}
		for _, b := range binaries() {
			call := func(a [][]int) []int {
				got, _ := b.call(a[0], a[1])
				return got
			}
			// the unit, 0 and t give what is there already, and might give it out as it is
			checkMemory(t, b.name, call, f, f)
			checkMemory(t, b.name, call, f, make([]int, len(f)))
			checkMemory(t, b.name, call, make([]int, len(f)), f)
			if len(f) > 0 {
				checkMemory(t, b.name, call, f, unit(len(f)))
				checkMemory(t, b.name, call, f, line(len(f)))
			}
		}
	}
}

// TestOneListTwice gives one list as both arguments.
func TestOneListTwice(t *testing.T) {
	for _, b := range binaries() {
		for _, f := range startingWith(16, 0) {
			list, memory := roomy(f)
			before := slices.Clone(memory)
			one, ok1 := b.call(list, list)
			other, ok2 := b.call(f, slices.Clone(f))
			if ok1 != ok2 || !slices.Equal(one, other) || !slices.Equal(memory, before) {
				t.Fatalf("%s of %v twice = %v, %v; want %v, %v", b.name, f, one, ok1, other, ok2)
			}
		}
	}
}
