package tests

import (
	"math/big"

	"loop.example/shadowseries/impl"
)

// The reference reckons with plain coefficients, as fractions of any size, and by other ways
// than the program: it neither counts sets nor derives, and its numbers can't grow too great.

// coefs are the coefficients of a series, those of the powers of t from 0 up.
type coefs []*big.Rat

func factorial(n int) *big.Rat {
	product := big.NewRat(1, 1)
	for i := 2; i <= n; i++ {
		product.Mul(product, big.NewRat(int64(i), 1))
	}
	return product
}

func zeroCoefs(count int) coefs {
	c := make(coefs, count)
	for i := range c {
		c[i] = new(big.Rat)
	}
	return c
}

func oneCoefs(count int) coefs {
	c := zeroCoefs(count)
	c[0].SetInt64(1)
	return c
}

func coefsOf(f []int) coefs {
	c := make(coefs, len(f))
	for k, number := range f {
		c[k] = new(big.Rat).Quo(big.NewRat(int64(number), 1), factorial(k))
	}
	return c
}

// wholes returns the numbers of c as a series, of any size, and whether they are whole.
func (c coefs) wholes() ([]int, bool) {
	list := make([]int, len(c))
	for k := range c {
		number := new(big.Rat).Mul(c[k], factorial(k))
		if !number.IsInt() || !number.Num().IsInt64() {
			return nil, false
		}
		list[k] = int(number.Num().Int64())
	}
	return list, true
}

// numbers returns the numbers of c as a series, and whether they are whole and within the limits.
func (c coefs) numbers() ([]int, bool) {
	list, ok := c.wholes()
	for _, number := range list {
		ok = ok && -impl.MaxCoefficient <= number && number <= impl.MaxCoefficient
	}
	if !ok {
		return nil, false
	}
	return list, true
}

func (c coefs) plus(d coefs) coefs {
	sum := zeroCoefs(len(c))
	for i := range c {
		sum[i].Add(c[i], d[i])
	}
	return sum
}

func (c coefs) scaled(by *big.Rat) coefs {
	out := zeroCoefs(len(c))
	for i := range c {
		out[i].Mul(c[i], by)
	}
	return out
}

func (c coefs) times(d coefs) coefs {
	product := zeroCoefs(len(c))
	for i := range c {
		for j := 0; i+j < len(c); j++ {
			product[i+j].Add(product[i+j], new(big.Rat).Mul(c[i], d[j]))
		}
	}
	return product
}

func (c coefs) power(k int) coefs {
	product := oneCoefs(len(c))
	for range k {
		product = product.times(c)
	}
	return product
}

// inverse adds up the powers of 1 - c/c[0], which is a geometric series.
func (c coefs) inverse() coefs {
	first := new(big.Rat).Inv(c[0])
	rest := oneCoefs(len(c)).plus(c.scaled(new(big.Rat).Neg(first)))
	sum := zeroCoefs(len(c))
	for k := range c {
		sum = sum.plus(rest.power(k))
	}
	return sum.scaled(first)
}

// of composes by Horner's rule.
func (c coefs) of(inner coefs) coefs {
	sum := zeroCoefs(len(c))
	for k := len(c) - 1; k >= 0; k-- {
		sum = sum.times(inner)
		sum[0].Add(sum[0], c[k])
	}
	return sum
}

// reverse goes by Lagrange: n times its coefficient n is the coefficient n-1 of the power n of t/c.
func (c coefs) reverse() coefs {
	shifted := zeroCoefs(len(c))
	copy(shifted, c[1:])
	quotient := shifted.inverse()
	out := zeroCoefs(len(c))
	for n := 1; n < len(c); n++ {
		out[n].Quo(quotient.power(n)[n-1], big.NewRat(int64(n), 1))
	}
	return out
}

func (c coefs) exponential() coefs {
	sum := zeroCoefs(len(c))
	for k := range c {
		sum = sum.plus(c.power(k).scaled(new(big.Rat).Inv(factorial(k))))
	}
	return sum
}

// logarithm adds up the powers of c - 1 with signs in turns, each divided by its index.
func (c coefs) logarithm() coefs {
	rest := c.plus(oneCoefs(len(c)).scaled(big.NewRat(-1, 1)))
	sum := zeroCoefs(len(c))
	for k := 1; k < len(c); k++ {
		sign := int64(1 - 2*((k+1)%2))
		sum = sum.plus(rest.power(k).scaled(big.NewRat(sign, int64(k))))
	}
	return sum
}
