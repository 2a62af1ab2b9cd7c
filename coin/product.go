package coin

import (
	"math/bits"

	"jobber/api"
)

// product is high times 2^64, and low: any product of two numbers, and any sum of 2^31 of them, has room in it.
type product struct {
	high int64
	low  uint64
}

// wide tells a number as a product.
func wide(n int64) product {
	return product{n >> 63, uint64(n)}
}

// times tells a times b.
func times(a, b int64) product {
	high, low := bits.Mul64(uint64(a), uint64(b))
	p := product{int64(high), low}
	// Mul64 takes a number below 0 to be 2^64 more than it is.
	if a < 0 {
		p.high -= b
	}
	if b < 0 {
		p.high -= a
	}
	return p
}

// plus tells p and q together.
func (p product) plus(q product) product {
	low, carry := bits.Add64(p.low, q.low, 0)
	high, _ := bits.Add64(uint64(p.high), uint64(q.high), carry)
	return product{int64(high), low}
}

// minus tells p less q.
func (p product) minus(q product) product {
	low, borrow := bits.Sub64(p.low, q.low, 0)
	high, _ := bits.Sub64(uint64(p.high), uint64(q.high), borrow)
	return product{int64(high), low}
}

// size tells p without its sign.
func (p product) size() product {
	if p.high < 0 {
		return wide(0).minus(p)
	}
	return p
}

// below tells whether p is below q.
func (p product) below(q product) bool {
	if p.high != q.high {
		return p.high < q.high
	}
	return p.low < q.low
}

// narrow tells p as a number of 64 bits.
func (p product) narrow() (int64, api.Errno) {
	n := int64(p.low)
	if p != wide(n) {
		return 0, api.ErrBig
	}
	return n, api.OK
}

// outward tells whether a quotient that leaves a rest is rounded away from 0.
func outward(round int, negative, odd bool, rest, by product) bool {
	if rest == wide(0) {
		return false
	}
	switch round {
	case api.Up:
		negative = !negative // Up of a number is Down of minus it
		fallthrough
	case api.Down:
		return negative
	}
	twice, past := rest.plus(rest), by.below
	return past(twice) || twice == by && odd
}
