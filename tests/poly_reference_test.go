package tests

import (
	"math/big"

	"loop.example/shadowseries/impl"
)

// The reference of polynomials reckons with numbers of any size, and by other ways than the program:
// by Horner's rule, by derivatives one after the other, by division, and by values.

// bigs are the coefficients of a polynomial, those of the powers of x from 0 up.
type bigs []*big.Int

func bigsOf(p []int) bigs {
	b := make(bigs, len(p))
	for i, number := range p {
		b[i] = big.NewInt(int64(number))
	}
	return b
}

func zeroBigs(count int) bigs { return bigsOf(make([]int, count)) }

// wholes returns the numbers of b, which have to fit in an int.
func (b bigs) wholes() []int {
	list := make([]int, len(b))
	for i, number := range b {
		if !number.IsInt64() {
			panic("a number that no function of polynomials returns")
		}
		list[i] = int(number.Int64())
	}
	return list
}

// poly returns the numbers of b, and whether they are within the limits.
func (b bigs) poly() ([]int, bool) {
	list := b.wholes()
	for _, number := range list {
		if number < -impl.MaxNumber || number > impl.MaxNumber {
			return nil, false
		}
	}
	return list, true
}

// at returns the value at x by Horner's rule.
func (b bigs) at(x int) *big.Int {
	value := new(big.Int)
	for i := len(b) - 1; i >= 0; i-- {
		value.Mul(value, big.NewInt(int64(x)))
		value.Add(value, b[i])
	}
	return value
}

// timesLinear returns b times x + c, without what is beyond its length.
func (b bigs) timesLinear(c int) bigs {
	product := zeroBigs(len(b))
	for i := range b {
		product[i].Mul(b[i], big.NewInt(int64(c)))
		if i > 0 {
			product[i].Add(product[i], b[i-1])
		}
	}
	return product
}

// shifted puts x + c in the place of x by Horner's rule.
func (b bigs) shifted(c int) bigs {
	sum := zeroBigs(len(b))
	for i := len(b) - 1; i >= 0; i-- {
		sum = sum.timesLinear(c)
		sum[0].Add(sum[0], b[i])
	}
	return sum
}

// plusTimes returns b and a number times d.
func (b bigs) plusTimes(number int, d bigs) bigs {
	sum := make(bigs, len(b))
	for i := range b {
		sum[i] = new(big.Int).Mul(big.NewInt(int64(number)), d[i])
		sum[i].Add(sum[i], b[i])
	}
	return sum
}

// operated adds up derivatives, of which each one is the derivative of the one ahead of it, divided by its index.
func (b bigs) operated(f []int) bigs {
	sum := zeroBigs(len(b))
	for k, number := range f {
		if k > 0 {
			next := zeroBigs(len(b))
			for i := 1; i < len(b); i++ {
				next[i-1].Mul(b[i], big.NewInt(int64(i)))
				next[i-1].Quo(next[i-1], big.NewInt(int64(k)))
			}
			b = next
		}
		sum = sum.plusTimes(number, b)
	}
	return sum
}

// falling divides by x, x - 1, and so on, and returns what is left over each time.
func (b bigs) falling() bigs {
	left := make(bigs, len(b))
	for k := range left {
		quotient := make(bigs, len(b)-1)
		over := new(big.Int)
		for i := len(b) - 1; i >= 0; i-- {
			over = new(big.Int).Add(b[i], new(big.Int).Mul(over, big.NewInt(int64(k))))
			if i > 0 {
				quotient[i-1] = over
			}
		}
		left[k], b = over, quotient
	}
	return left
}

// differences returns the first values of rows, each of the differences in the row ahead; the first row has the values from 0 up.
func (b bigs) differences() bigs {
	row := make(bigs, len(b))
	for x := range row {
		row[x] = b.at(x)
	}
	var firsts bigs
	for range b {
		firsts = append(firsts, row[0])
		next := make(bigs, len(row)-1)
		for x := range next {
			next[x] = new(big.Int).Sub(row[x+1], row[x])
		}
		row = next
	}
	return firsts
}

// replaced returns the sum of the rows, each times its coefficient.
func (b bigs) replaced(rows [][]int) bigs {
	sum := zeroBigs(len(b))
	for k, row := range rows {
		sum = sum.plusTimes(int(b[k].Int64()), bigsOf(row))
	}
	return sum
}

// binomialByValues reports whether a sequence is of binomial type by values at so many
// points x and y that two polynomials with these values are the same.
func binomialByValues(list [][]int) bool {
	for n := range list {
		for x := range len(list) + 1 {
			for y := range len(list) + 1 {
				sum := new(big.Int)
				for k := range n + 1 {
					product := new(big.Int).Mul(bigsOf(list[k]).at(x), bigsOf(list[n-k]).at(y))
					sum.Add(sum, product.Mul(product, big.NewInt(int64(sets(n, k)))))
				}
				if sum.Cmp(bigsOf(list[n]).at(x+y)) != 0 {
					return false
				}
			}
		}
	}
	return true
}
