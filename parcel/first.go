package parcel

import (
	"bytes"
	"iter"
	"math"

	"jobber/api"
	"jobber/codec"
)

// How a parcel stands in bytes: its kind, the number of its body's bytes, the body, and the sum.
const (
	kindLen   = 1
	sumLen    = 4
	maxNumber = 10     // bytes of any number
	more      = 1 << 7 // set in a number's byte behind which another one comes
)

// parcel is one that was found whole; its body lies in the bytes that it was found in.
type parcel struct {
	kind byte
	body []byte
	size int // bytes of all of it
}

// all goes over the parcels with which b begins.
func all(b []byte) iter.Seq[parcel] {
	return func(yield func(parcel) bool) {
		rest := b
		for p, e := first(rest); e == api.OK && yield(p); p, e = first(rest) {
			rest = rest[p.size:]
		}
	}
}

// first tells the parcel with which b begins.
func first(b []byte) (parcel, api.Errno) {
	if len(b) == 0 {
		return parcel{}, api.ErrTorn
	}
	if b[0] == 0 {
		return parcel{}, api.ErrForm
	}
	long, n, e := length(b[kindLen:])
	if e != api.OK {
		return parcel{}, e
	}
	from := kindLen + n
	to := from + long
	if len(b) < to+sumLen {
		return parcel{}, api.ErrTorn
	}
	if !bytes.Equal(low(Sum(b[:to])), b[to:to+sumLen]) {
		return parcel{}, api.ErrSum
	}
	return parcel{kind: b[0], body: b[from:to], size: to + sumLen}, api.OK
}

// length tells the number of a body's bytes, with which b begins, and how many bytes that number has.
func length(b []byte) (long, n int, e api.Errno) {
	b = b[:min(len(b), maxNumber)] // a reader copies all that it is given
	r := codec.Open(b)
	x := r.Nat(math.MaxUint64)
	switch {
	case r.Bad() && len(b) < maxNumber && goesOn(b):
		return 0, 0, api.ErrTorn
	case r.Bad():
		return 0, 0, api.ErrForm
	case x > api.MaxText:
		return 0, 0, api.ErrLong
	}
	return int(x), len(b) - r.Left(), api.OK
}

// goesOn tells whether each of the bytes tells that another one comes.
func goesOn(b []byte) bool {
	for _, c := range b {
		if c < more {
			return false
		}
	}
	return true
}

// low tells a sum's bytes, the lowest first.
func low(sum uint32) []byte {
	return []byte{byte(sum), byte(sum >> 8), byte(sum >> 16), byte(sum >> 24)}
}
