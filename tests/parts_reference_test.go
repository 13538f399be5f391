package tests

import (
	"slices"

	"loop.example/shadowseries/impl"
)

// The reference of things in parts goes by lists of all kinds, and by which two things are together: it picks what
// the document describes out of all that there is, and counts orders one by one.

// grows reports whether each number of a list is there already ahead of it, or is the next one.
func grows(p []int) bool {
	next := 0
	for _, number := range p {
		if number < 0 || number > next {
			return false
		}
		next = max(next, number+1)
	}
	return true
}

// everyWay returns all ways to part n things, out of all lists of numbers below n.
func everyWay(n int) [][]int {
	return slices.DeleteFunc(listsOf(n, 0, n-1), func(p []int) bool { return !grows(p) })
}

// waysUpTo returns all ways to part up to n things.
func waysUpTo(n int) [][]int {
	var all [][]int
	for count := range n + 1 {
		all = append(all, everyWay(count)...)
	}
	return all
}

// sizes returns how often each number from 0 to the greatest one is in a list.
func sizes(p []int) []int {
	var counts []int
	for part := 0; slices.Contains(p, part); part++ {
		counts = append(counts, 0)
		for _, number := range p {
			if number == part {
				counts[part]++
			}
		}
	}
	return counts
}

// together reports for each two things whether they are in one part.
func together(p []int) []bool {
	var all []bool
	for _, one := range p {
		for _, other := range p {
			all = append(all, one == other)
		}
	}
	return all
}

// finer reports whether things that are together by p are so by q.
func finer(p []int, q []int) bool {
	apart := together(q)
	for i, are := range together(p) {
		if are && !apart[i] {
			return false
		}
	}
	return true
}

// meetByThings picks, out of all ways, the one by which two things are together if they are so by p and by q.
func meetByThings(ways [][]int, p []int, q []int) []int {
	both := together(q)
	for i, are := range together(p) {
		both[i] = both[i] && are
	}
	return ways[slices.IndexFunc(ways, func(way []int) bool { return slices.Equal(together(way), both) })]
}

// joinByParts picks, out of all ways, the one with the most parts that p and q are finer than, and returns how many there are of these.
func joinByParts(ways [][]int, p []int, q []int) ([]int, int) {
	var most []int
	count := 0
	for _, way := range ways {
		if !finer(p, way) || !finer(q, way) {
			continue
		}
		if parts := len(sizes(way)); count == 0 || parts > len(sizes(most)) {
			most, count = way, 1
		} else if parts == len(sizes(most)) {
			count++
		}
	}
	return most, count
}

// weightByParts multiplies what each part gives, one after the other.
func weightByParts(p []int) int {
	weight := 1
	for _, m := range sizes(p) {
		weight *= []int{0, 1, -1, 2, -6, 24}[m]
	}
	return weight
}

// orders returns all orders of n things.
func orders(n int) [][]int {
	return slices.DeleteFunc(listsOf(n, 0, n-1), func(order []int) bool {
		return slices.ContainsFunc(sizes(order), func(count int) bool { return count != 1 }) || len(sizes(order)) != n
	})
}

// circlesOf counts the circles of an order, in which each thing is followed by the one at its place.
func circlesOf(order []int) int {
	count := 0
	seen := make([]bool, len(order))
	for thing := range order {
		if !seen[thing] {
			count++
		}
		for !seen[thing] {
			seen[thing] = true
			thing = order[thing]
		}
	}
	return count
}

// listsByCuts counts the ways to cut orders of n things into k lists of which the first things ascend.
func listsByCuts(n int, k int) int {
	count := 0
	for _, order := range orders(n) {
		for cuts := range 1 << n {
			if firsts := firstsOf(order, cuts); len(firsts) == k && slices.IsSorted(firsts) && (n == 0 || cuts&1 == 1) {
				count++
			}
		}
	}
	return count
}

// firstsOf returns the things of an order at which a list begins.
func firstsOf(order []int, cuts int) []int {
	var firsts []int
	for i, thing := range order {
		if cuts>>i&1 == 1 {
			firsts = append(firsts, thing)
		}
	}
	return firsts
}

// noWays are lists that are no way to part things: all short ones of small numbers, and some with one number that is
// wrong or with too many things.
func noWays() [][]int {
	all := slices.DeleteFunc(everySeries(impl.MaxN, -1, impl.MaxN), grows)
	for _, way := range everyWay(impl.MaxN) {
		for number := range impl.MaxN + 1 {
			all = append(all, append(slices.Clone(way), number))
		}
		for place := range way {
			for _, number := range []int{-2, -5, 6, 256, 1 << 32, -1 << 32, 1<<63 - 1, -1 << 63} {
				list := slices.Clone(way)
				list[place] = number
				all = append(all, list)
			}
		}
	}
	for count := impl.MaxN + 1; count < 20; count++ {
		apart := make([]int, count)
		for thing := range apart {
			apart[thing] = thing
		}
		all = append(all, make([]int, count), apart)
	}
	return append(all, make([]int, 1000))
}
