// Package codec has numbers and texts as bytes, each in one form alone. See shared/doc/02-codec.md.
package codec

import (
	"math"
	"slices"

	"jobber/api"
)

// Writer writes bytes.
type Writer struct {
	tape *tape
	n    int // bytes of the tape that are this writer's
}

// tape is bytes that are only ever added to, as copies of a writer may share it.
type tape struct{ b []byte }

// Nat writes natural numbers.
func (w *Writer) Nat(l ...uint64) {
	for _, n := range l {
		w.add(groups(n)...)
	}
}

// Int writes whole numbers.
func (w *Writer) Int(l ...int64) {
	for _, n := range l {
		w.Nat(fold(n))
	}
}

// Flag writes a flag.
func (w *Writer) Flag(is bool) {
	if is {
		w.Nat(1)
		return
	}
	w.Nat(0)
}

// Text writes a text.
func (w *Writer) Text(s string) {
	w.Nat(uint64(len(s)))
	w.add([]byte(s)...)
}

// Bytes tells what was written.
func (w *Writer) Bytes() []byte {
	if w == nil || w.tape == nil {
		return nil
	}
	return slices.Clone(w.tape.b[:w.n])
}

// add writes bytes.
func (w *Writer) add(l ...byte) {
	if w == nil {
		return
	}
	if w.tape == nil || len(w.tape.b) != w.n { // none yet, or a copy of this writer has gone on
		w.tape = &tape{w.Bytes()}
	}
	w.tape.b = append(w.tape.b, l...)
	w.n = len(w.tape.b)
}

// Reader reads bytes.
type Reader struct {
	rest string // empty of a bad one, so that nothing more is read
	bad  bool
}

// Open tells a reader.
func Open(b []byte) *Reader {
	return &Reader{rest: string(b)}
}

// Nat reads a natural number.
func (r *Reader) Nat(most uint64) uint64 {
	if r == nil {
		return 0
	}
	next := func() (byte, bool) {
		if r.rest == "" {
			return 0, false
		}
		b := r.rest[0]
		r.rest = r.rest[1:]
		return b, true
	}
	n, ok := number(next)
	if !ok || n > most {
		r.Fail()
		return 0
	}
	return n
}

// Int reads a whole number.
func (r *Reader) Int() int64 {
	return unfold(r.Nat(math.MaxUint64))
}

// Flag reads a flag.
func (r *Reader) Flag() bool {
	return r.Nat(1) == 1
}

// Text reads a text.
func (r *Reader) Text(most int) string {
	if r == nil || most < 0 {
		r.Fail()
		return ""
	}
	n := r.Nat(uint64(most))
	if n > uint64(len(r.rest)) {
		r.Fail()
		return ""
	}
	s := r.rest[:n]
	r.rest = r.rest[n:]
	return s
}

// Fail makes it bad.
func (r *Reader) Fail() {
	if r != nil {
		r.rest, r.bad = "", true
	}
}

// Bad tells whether it is bad.
func (r *Reader) Bad() bool {
	return r != nil && r.bad
}

// Left tells how many bytes are left.
func (r *Reader) Left() int {
	if r == nil {
		return 0
	}
	return len(r.rest)
}

// End tells whether all was read.
func (r *Reader) End() api.Errno {
	if r == nil {
		return api.ErrNil
	}
	if r.bad || r.rest != "" {
		return api.ErrForm
	}
	return api.OK
}
