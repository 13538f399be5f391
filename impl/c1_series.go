package impl

import (
	"strconv"
	"strings"
)

// MaxN is the largest index of a series.
const MaxN = 5

// MaxCoefficient is the greatest number of a series.
const MaxCoefficient = 600

// series holds the numbers of a series by their indices, and 0 behind the last one.
// A number of a result depends on none beyond its own index, so a shorter series is
// reckoned with at full length and cut at the end. Whatever is made of valid numbers
// on the way fits in an int: the greatest, about 120 * 600^6, is below 2^63.
type series [MaxN + 1]int

// seriesOf returns the series that begins with some numbers.
func seriesOf(numbers ...int) series {
	var s series
	copy(s[:], numbers)
	return s
}

// seriesBy returns the series of which a rule gives each number.
func seriesBy(rule func(n int) int) series {
	var s series
	for n := range s {
		s[n] = rule(n)
	}
	return s
}

// ones returns the series of which all numbers are 1.
func ones() series {
	return seriesBy(func(int) int { return 1 })
}

// plusTimes returns a list with another one, taken as often as times, added to it.
func plusTimes[L ~[MaxN + 1]int](sum L, times int, list L) L {
	for n, number := range list {
		sum[n] += times * number
	}
	return sum
}

// choose returns the number of sets of k of n things.
func choose(n int, k int) int {
	sets := 1
	for i := range k {
		sets = sets * (n - i) / (i + 1)
	}
	return sets
}

// sumOverSets adds up, over all sets of some of n things, a term that depends on the size of the set alone.
func sumOverSets(n int, term func(k int) int) int {
	sum := 0
	for k := range n + 1 {
		sum += choose(n, k) * term(k)
	}
	return sum
}

// clamped returns the series with each number moved into the limits.
func (s series) clamped() series {
	return seriesBy(func(n int) int {
		return max(-MaxCoefficient, min(s[n], MaxCoefficient))
	})
}

// list returns the first numbers of s, as many as count, and whether they are a series.
func (s series) list(count int) ([]int, bool) {
	list := make([]int, count)
	copy(list, s[:])
	if !ValidSeries(list) {
		return nil, false
	}
	return list, true
}

// plus returns the sum of two series.
func (s series) plus(o series) series {
	return plusTimes(s, 1, o)
}

// times returns the product of two series.
func (s series) times(o series) series {
	return seriesBy(func(n int) int {
		return sumOverSets(n, func(k int) int { return s[k] * o[n-k] })
	})
}

// derivative returns the derivative of s, with 0 as last number, of which s tells nothing.
func (s series) derivative() series {
	return seriesOf(s[1:]...)
}

// integral returns the series with 0 as first number whose derivative is s.
func (s series) integral() series {
	var whole series
	copy(whole[1:], s[:])
	return whole
}

// inverse returns the series whose product with s is 1, where s begins with 1 or -1.
func (s series) inverse() series {
	inverse := seriesOf(s[0])
	for n := 1; n <= MaxN; n++ {
		// As inverse[n] is still 0, the product is what it has to make up for.
		inverse[n] = -s[0] * s.times(inverse)[n]
	}
	return inverse
}

// dividedPower returns s, which begins with 0, to the power k, divided by k!.
// It goes by derivatives, so that nothing has to be divided.
func (s series) dividedPower(k int) series {
	power := seriesOf(1)
	for range k {
		power = s.derivative().times(power).integral()
	}
	return power
}

// of returns s with inner, which begins with 0, in the place of t.
func (s series) of(inner series) series {
	var sum series
	for k, number := range s {
		sum = plusTimes(sum, number, inner.dividedPower(k))
	}
	return sum
}

// reverse returns the series that gives t with s in the place of its t, where s begins with 0 and 1, or 0 and -1.
func (s series) reverse() series {
	reverse := seriesOf(0, s[1])
	sign := s[1]
	for n := 2; n <= MaxN; n++ {
		sign *= s[1]
		// As reverse[n] is still 0, the composed series is what it has to make up for.
		reverse[n] = -sign * reverse.of(s)[n]
	}
	return reverse
}

// ofOneLength reports whether f and g are series of one length.
func ofOneLength(f []int, g []int) bool {
	return len(f) == len(g) && ValidSeries(f) && ValidSeries(g)
}

// beginsWith reports whether f is a series with one of some numbers as first number.
func beginsWith(f []int, firsts ...int) bool {
	if !ValidSeries(f) {
		return false
	}
	for _, first := range firsts {
		if f[0] == first {
			return true
		}
	}
	return false
}

// textOf returns numbers of any size in decimal, with a comma between two of them.
func textOf(numbers []int) string {
	words := make([]string, len(numbers))
	for i, number := range numbers {
		words[i] = strconv.Itoa(number)
	}
	return strings.Join(words, ",")
}

// ValidSeries reports whether numbers are a series.
func ValidSeries(f []int) bool {
	if len(f) < 1 || len(f) > MaxN+1 {
		return false
	}
	s := seriesOf(f...)
	return s == s.clamped()
}

// AddSeries returns the sum of two series.
func AddSeries(f []int, g []int) ([]int, bool) {
	if !ofOneLength(f, g) {
		return nil, false
	}
	return seriesOf(f...).plus(seriesOf(g...)).list(len(f))
}

// MultiplySeries returns the product of two series.
func MultiplySeries(f []int, g []int) ([]int, bool) {
	if !ofOneLength(f, g) {
		return nil, false
	}
	return seriesOf(f...).times(seriesOf(g...)).list(len(f))
}

// InvertSeries returns the series whose product with one is 1.
func InvertSeries(f []int) ([]int, bool) {
	if !beginsWith(f, 1, -1) {
		return nil, false
	}
	return seriesOf(f...).inverse().list(len(f))
}

// DividedPower returns a power of a series, divided by a factorial.
func DividedPower(f []int, k int) ([]int, bool) {
	if !beginsWith(f, 0) || k < 0 || k > MaxN {
		return nil, false
	}
	return seriesOf(f...).dividedPower(k).list(len(f))
}

// ComposeSeries returns a series of a series.
func ComposeSeries(f []int, g []int) ([]int, bool) {
	if !ofOneLength(f, g) || g[0] != 0 {
		return nil, false
	}
	return seriesOf(f...).of(seriesOf(g...)).list(len(f))
}

// ReverseSeries returns the series that undoes one.
func ReverseSeries(f []int) ([]int, bool) {
	if !beginsWith(f, 0) || !beginsWith(f[1:], 1, -1) {
		return nil, false
	}
	return seriesOf(f...).reverse().list(len(f))
}

// DeriveSeries returns the derivative of a series.
func DeriveSeries(f []int) []int {
	if !ValidSeries(f) || len(f) < 2 {
		return nil
	}
	derivative, _ := seriesOf(f...).derivative().list(len(f) - 1)
	return derivative
}

// ExponentialOf returns the exponential of a series.
func ExponentialOf(f []int) ([]int, bool) {
	if !beginsWith(f, 0) {
		return nil, false
	}
	return ones().of(seriesOf(f...)).list(len(f))
}

// LogarithmOf returns the logarithm of a series.
func LogarithmOf(f []int) ([]int, bool) {
	if !beginsWith(f, 1) {
		return nil, false
	}
	s := seriesOf(f...)
	// By the chain rule the derivative of the logarithm is that of s, divided by s.
	return s.derivative().times(s.inverse()).integral().list(len(f))
}

// SeriesText returns the text of a series.
func SeriesText(f []int) string {
	if !ValidSeries(f) {
		return ""
	}
	return textOf(f)
}

// ParseSeries returns the series of a text.
func ParseSeries(s string) ([]int, bool) {
	words := strings.SplitN(s, ",", MaxN+2)
	list := make([]int, len(words))
	for i, word := range words {
		number, err := strconv.Atoi(word)
		if err != nil {
			return nil, false
		}
		list[i] = number
	}
	// Atoi reads more than SeriesText writes, such as +1, -0 and 01.
	if !ValidSeries(list) || SeriesText(list) != s {
		return nil, false
	}
	return list, true
}
