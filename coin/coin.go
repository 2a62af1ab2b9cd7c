// Package coin has whole numbers that do not go round. See shared/doc/01-coin.md.
package coin

import (
	"math/bits"

	"jobber/api"
)

// Add tells a sum.
func Add(a, b int64) (int64, api.Errno) {
	return wide(a).plus(wide(b)).narrow()
}

// Sub tells a difference.
func Sub(a, b int64) (int64, api.Errno) {
	return wide(a).minus(wide(b)).narrow()
}

// Mul tells a product.
func Mul(a, b int64) (int64, api.Errno) {
	return times(a, b).narrow()
}

// Div tells a product by a number, rounded.
func Div(a, b, c int64, round int) (int64, api.Errno) {
	if round != api.Down && round != api.Up && round != api.Even {
		return 0, api.ErrArg
	}
	if c == 0 {
		return 0, api.ErrDiv
	}
	p := times(a, b)
	negative := (p.high < 0) != (c < 0)
	of, by := p.size(), wide(c).size()
	if uint64(of.high) >= by.low {
		return 0, api.ErrBig // 2^64 or more; bits.Div64 would panic
	}
	quotient, left := bits.Div64(uint64(of.high), of.low, by.low)
	q, rest := product{low: quotient}, product{low: left}
	if outward(round, negative, quotient&1 == 1, rest, by) {
		q = q.plus(wide(1))
	}
	if negative {
		q = wide(0).minus(q)
	}
	return q.narrow()
}

// Sum tells all together.
func Sum(l ...int64) (int64, api.Errno) {
	all := wide(0)
	for _, n := range l {
		all = all.plus(wide(n))
	}
	return all.narrow()
}

// Less tells whether a product is below another one.
func Less(a, b, c, d int64) bool {
	below := times(a, b).below
	return below(times(c, d))
}

// Capped tells a sum that goes no further.
func Capped(a, b int64) int64 {
	if a < 0 || b < 0 || a > api.MaxMoney || b > api.MaxMoney {
		return 0
	}
	if a > api.MaxMoney-b { // both together may have no room
		return api.MaxMoney
	}
	return a + b
}
