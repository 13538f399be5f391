package tests

import (
	"slices"
	"strconv"
	"strings"

	"loop.example/shadowseries/impl"
)

// The reference of transforms follows the sentences of the document number by number, counts orders one by one, and
// takes determinants as sums over orders.

// within returns a list, and whether all of its numbers are within the limits of a series.
func within(list []int) ([]int, bool) {
	for _, number := range list {
		if number < -impl.MaxCoefficient || number > impl.MaxCoefficient {
			return nil, false
		}
	}
	return list, true
}

// eachNumber returns count numbers that a rule gives.
func eachNumber(count int, rule func(n int) int) []int {
	list := make([]int, count)
	for n := range list {
		list[n] = rule(n)
	}
	return list
}

// rowsTimes returns for each row the sum of the products of its numbers and those of a list.
func rowsTimes(rows [][]int, list []int) []int {
	return eachNumber(len(rows), func(n int) int {
		sum := 0
		for k, number := range list {
			sum += rows[n][k] * number
		}
		return sum
	})
}

// power is x times itself k times, 1 for k 0.
func power(x int, k int) int {
	product := 1
	for range k {
		product *= x
	}
	return product
}

// binomialBySets adds up the numbers of a list, each times a power of c and the number of sets.
func binomialBySets(list []int, c int) []int {
	return eachNumber(len(list), func(n int) int {
		sum := 0
		for k := range n + 1 {
			sum += sets(n, k) * list[k] * power(c, n-k)
		}
		return sum
	})
}

// inTurns changes the signs at odd indices.
func inTurns(list []int) []int {
	return eachNumber(len(list), func(n int) int { return list[n] * power(-1, n) })
}

// placeBothWays is the number at the place k of the row n that is gone through both ways.
func placeBothWays(list []int, n int, k int) int {
	if k == 0 {
		return list[n]
	}
	return placeBothWays(list, n, k-1) + placeBothWays(list, n-1, n-k)
}

// lastOfRows are the last numbers of the rows that are gone through both ways.
func lastOfRows(list []int) []int {
	return eachNumber(len(list), func(n int) int { return placeBothWays(list, n, n) })
}

// determinantByOrders adds up, over all orders, the products of one number of each row, with a sign by the order's circles.
func determinantByOrders(list []int, rows int) int {
	sum := 0
	for _, order := range orders(rows) {
		product := power(-1, rows-circlesOf(order))
		for i, k := range order {
			product *= list[i+k]
		}
		sum += product
	}
	return sum
}

// determinants are those of all squares that a list has the numbers for.
func determinants(list []int) []int {
	count := []int{0, 2, 2, 3, 3, 4, 4}[len(list)]
	return eachNumber(count, func(rows int) int { return determinantByOrders(list, rows) })
}

// ordersThat counts the orders of n things of which something is so.
func ordersThat(n int, is func(order []int) bool) int {
	return len(slices.DeleteFunc(orders(n), func(order []int) bool { return !is(order) }))
}

// isLost reports whether an order leaves no thing at its place.
func isLost(order []int) bool {
	for place, thing := range order {
		if place == thing {
			return false
		}
	}
	return true
}

// isUpDown reports whether an order rises, falls, rises, and so on.
func isUpDown(order []int) bool {
	for i := range max(0, len(order)-1) {
		if rises := order[i] < order[i+1]; rises != (i%2 == 0) {
			return false
		}
	}
	return true
}

// deskWords are the words of the desk, with what answers their lines, nil for nothing.
func deskWords() map[string]func(f []int) []int {
	only := func(call func(f []int) ([]int, bool)) func(f []int) []int {
		return func(f []int) []int {
			list, _ := call(f)
			return list
		}
	}
	return map[string]func(f []int) []int{
		"exp": only(impl.ExponentialOf), "log": only(impl.LogarithmOf), "invert": only(impl.InvertSeries), "reverse": only(impl.ReverseSeries),
		"binomial": only(func(f []int) ([]int, bool) { return within(binomialBySets(f, 1)) }),
		"zigzag":   only(func(f []int) ([]int, bool) { return within(lastOfRows(f)) }),
		"hankel":   determinants,
	}
}

// inDecimal writes numbers of any size as SeriesText does.
func inDecimal(list []int) string {
	text := ""
	for _, number := range list {
		text += "," + strconv.Itoa(number)
	}
	return strings.TrimPrefix(text, ",")
}

// answer is what a desk answers to a line of a word, a space and a text, which may have spaces.
func answer(word string, text string) string {
	call := deskWords()[word]
	if call == nil || strings.Count(text, " ") > 0 {
		return "what"
	}
	f, ok := impl.ParseSeries(text)
	if !ok {
		return "wrong"
	}
	if list := call(f); list != nil {
		return inDecimal(list)
	}
	return "none"
}
