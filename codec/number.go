package codec

// How a number stands in bytes: seven bits of it in each, and one that tells that more come.
const (
	groupBits = 7
	more      = 1 << groupBits
	maxGroups = 10 // of 64 bits
	topMost   = 1  // what 64 bits leave for the last group of so many
)

// groups tells a natural number's bytes.
func groups(n uint64) []byte {
	var l []byte
	for n >= more {
		l = append(l, byte(n)|more)
		n >>= groupBits
	}
	return append(l, byte(n))
}

// number puts together what next tells, byte by byte, and tells whether it is a number in its one form.
func number(next func() (byte, bool)) (uint64, bool) {
	n := uint64(0)
	for i := range maxGroups {
		b, ok := next()
		if !ok || i == maxGroups-1 && b > topMost {
			return 0, false
		}
		n |= uint64(b%more) << (groupBits * i)
		if b < more {
			return n, b > 0 || i == 0
		}
	}
	return 0, false
}

// fold tells a whole number as a natural one.
func fold(n int64) uint64 {
	if n < 0 {
		return uint64(^n)<<1 | 1
	}
	return uint64(n) << 1
}

// unfold tells the whole number that fold makes n of.
func unfold(n uint64) int64 {
	half := int64(n >> 1)
	if n&1 == 1 {
		return ^half
	}
	return half
}
