package event_test

import (
	"bytes"
	"math"
	"math/rand"
	"reflect"
	"slices"
	"testing"

	"jobber/api"
	"jobber/codec"
	"jobber/event"
)

func TestP21_1BytesByHand(t *testing.T) {
	for i, x := range []struct {
		l []api.Event
		b []byte
	}{
		{nil, []byte{0}}, // the chapter's
		{[]api.Event{}, []byte{0}},
		{[]api.Event{{Kind: api.EvReject}}, []byte{1, 2, 0, 0, 0, 0, 0, 0, 0, 0, 0, 0, 0}},
		{[]api.Event{{Kind: api.EvNoop, Index: 300}}, []byte{1, 30, 0, 0, 0, 0, 0, 0, 0, 0, 0, 0, 0xac, 2}},
		{[]api.Event{of(api.EvTrade)}, []byte{1, 8, 4, 3, 4, 10, 12, 13, 16, 18, 20, 22, 12}},
		{
			[]api.Event{{Kind: 2, Account: -1, ID: 1 << 7, Qty: -1}, {Kind: 3, Other: math.MaxUint64, Code: -1}},
			[]byte{2, 4, 1, 0x80, 1, 0, 0, 0, 1, 0, 0, 0, 0, 0, 6, 0, 0, 255, 255, 255, 255, 255, 255, 255, 255, 255, 1, 0, 0, 0, 0, 0, 1, 0, 0},
		},
	} {
		if b, e := event.Bytes(x.l); e != api.OK || !bytes.Equal(b, x.b) {
			t.Error(i, b, int(e))
		}
		if b := putAlone(x.l); !bytes.Equal(b, x.b) {
			t.Error(i, b)
		}
		if b := byWords(x.l); !bytes.Equal(b, x.b) {
			t.Error(i, "by the words", b)
		}
		d := codec.Open(x.b)
		if l, ok := event.Read(d); !ok || !slices.Equal(l, x.l) || d.End() != api.OK {
			t.Error(i, l, ok)
		}
	}
}

func TestP21_1BytesOfKinds(t *testing.T) {
	for _, kind := range kinds() {
		l := []api.Event{of(kind), of(1)}
		if b, e := event.Bytes(l); e != api.OK || !bytes.Equal(b, byWords(l)) {
			t.Error(kind, b, int(e))
		}
	}
	for _, kind := range noKinds() {
		for _, l := range [][]api.Event{{of(kind)}, {of(kind), of(1)}, {of(1), of(kind)}, {of(1), of(kind), of(15)}} {
			if b, e := event.Bytes(l); e != api.ErrArg || len(b) != 0 {
				t.Error(kind, b, int(e))
			}
			if b := putAlone(l); !bytes.Equal(b, byWords(l)) { // Put asks for no kind
				t.Error(kind, b)
			}
			d := codec.Open(byWords(l))
			if read, ok := event.Read(d); ok || len(read) != 0 || !d.Bad() {
				t.Error(kind, read, ok)
			}
		}
	}
}

func TestP21_1BytesOfMany(t *testing.T) {
	src := rand.New(rand.NewSource(211))
	for _, n := range []int{1, 2, 127, 128, 255, 256} {
		l := many(src, n)
		b, e := event.Bytes(l)
		if e != api.OK || !bytes.Equal(b, byWords(l)) {
			t.Error(n, len(b), int(e))
		}
		if read, ok := event.Read(codec.Open(b)); !ok || !slices.Equal(read, l) {
			t.Error(n, ok)
		}
	}
	for _, n := range []int{257, 258, 1000} {
		l := many(src, n)
		if b, e := event.Bytes(l); e != api.ErrLong || len(b) != 0 {
			t.Error(n, len(b), int(e))
		}
		if b := putAlone(l); !bytes.Equal(b, byWords(l)) { // Put asks for no number
			t.Error(n, len(b))
		}
		d := codec.Open(byWords(l))
		if read, ok := event.Read(d); ok || len(read) != 0 || !d.Bad() {
			t.Error(n, ok)
		}
		l[n/2].Kind = 0
		if _, e := event.Bytes(l); e != api.ErrLong { // it is named first
			t.Error(n, int(e))
		}
	}
}

func TestP21_1BytesOfEachField(t *testing.T) {
	for _, p := range parts()[1:] {
		for _, n := range wild() {
			e := of(api.EvMove)
			p.set(&e, n)
			b, code := event.Bytes([]api.Event{e})
			if code != api.OK || !bytes.Equal(b, byWords([]api.Event{e})) {
				t.Error(p.name, n, b, int(code))
			}
			if l, ok := event.Read(codec.Open(b)); !ok || !slices.Equal(l, []api.Event{e}) {
				t.Error(p.name, n, l, ok)
			}
		}
	}
}

func TestP21_1PutBehindWhatIsThere(t *testing.T) {
	first, second := []api.Event{of(1)}, []api.Event{of(2), of(3)}
	var w codec.Writer
	w.Nat(300)
	event.Put(&w, first)
	event.Put(&w, nil)
	event.Put(&w, second)
	w.Flag(true)
	want := slices.Concat([]byte{0xac, 2}, byWords(first), []byte{0}, byWords(second), []byte{1})
	if !bytes.Equal(w.Bytes(), want) {
		t.Error(w.Bytes())
	}
	event.Put(nil, first) // nothing is done
	d := codec.Open(want)
	d.Nat(300)
	a, okA := event.Read(d)
	b, okB := event.Read(d)
	c, okC := event.Read(d)
	if !okA || !okB || !okC || !slices.Equal(a, first) || len(b) != 0 || !slices.Equal(c, second) || !d.Flag() || d.End() != api.OK {
		t.Error(a, b, c)
	}
}

// refused tells whether none are read, and the reader is bad then.
func refused(d *codec.Reader) bool {
	l, ok := event.Read(d)
	return !ok && len(l) == 0 && d.Bad() && d.Left() == 0 && d.End() == api.ErrForm
}

func TestP21_1ReadOfNone(t *testing.T) {
	if l, ok := event.Read(nil); ok || len(l) != 0 {
		t.Error("nil", l)
	}
	if !refused(&codec.Reader{}) || !refused(codec.Open(nil)) {
		t.Error("of nothing")
	}
	bad := codec.Open([]byte{0})
	bad.Fail()
	if !refused(bad) {
		t.Error("of a bad one")
	}
	for i, b := range [][]byte{
		{0x80, 0},                // 0, not in its one form
		{0x81, 0},                // 1 likewise
		{0x80, 2},                // 256, and nothing of them
		{0x81, 2},                // 257
		{0xff, 0xff, 0xff, 0x7f}, // as many as there is no room for
		{0xff, 0xff, 0xff, 0xff, 0xff, 0xff, 0xff, 0xff, 0xff, 1},             // 2^64 - 1
		{0xff, 0xff, 0xff, 0xff, 0xff, 0xff, 0xff, 0xff, 0xff, 2},             // 2^64 and more
		{1, 0, 0, 0, 0, 0, 0, 0, 0, 0, 0, 0, 0},                               // no kind
		{1, 1, 0, 0, 0, 0, 0, 0, 0, 0, 0, 0, 0},                               // the kind -1
		{1, 32, 0, 0, 0, 0, 0, 0, 0, 0, 0, 0, 0},                              // the kind 16
		{1, 0x82, 0x80, 0x80, 0x80, 0x20, 0, 0, 0, 0, 0, 0, 0, 0, 0, 0, 0},    // the kind 2^32 + 1
		{1, 0x82, 0, 0, 0, 0, 0, 0, 0, 0, 0, 0, 0, 0},                         // a kind, not in its one form
		{1, 2, 0, 0, 0, 0, 0, 0, 0, 0, 0, 0, 0x80, 0},                         // an index likewise
		{2, 2, 0, 0, 0, 0, 0, 0, 0, 0, 0, 0, 0},                               // the second one is not there
		{2, 2, 0, 0, 0, 0, 0, 0, 0, 0, 0, 0, 0, 2, 0, 0, 0, 0, 0, 0, 0, 0, 0}, // it ends too early
	} {
		if !refused(codec.Open(b)) || !refused(codec.Open(append(slices.Clone(b), 0x80))) {
			t.Error(i, b)
		}
	}
}

func TestP21_1ReadOfPieces(t *testing.T) {
	src := rand.New(rand.NewSource(212))
	for range 200 {
		l := many(src, 1+src.Intn(5))
		b := byWords(l)
		for n := range b {
			if !refused(codec.Open(b[:n])) {
				t.Fatal(l, n)
			}
		}
		d := codec.Open(append(slices.Clone(b), 1, 2, 3)) // what lies behind is not passed over
		if read, ok := event.Read(d); !ok || !slices.Equal(read, l) || d.Left() != 3 || d.Bad() {
			t.Fatal(l, read, ok)
		}
	}
}

func TestP21_2Same(t *testing.T) {
	for _, p := range parts() {
		for _, n := range []int64{1, -1, 1 << 40, math.MinInt64} {
			a, b := []api.Event{of(1), of(4), of(7)}, []api.Event{of(1), of(4), of(7)}
			if !event.Same(a, b) {
				t.Fatal("not the same")
			}
			for i := range b {
				was := b[i]
				p.set(&b[i], p.get(b[i])+n)
				if event.Same(a, b) || event.Same(b, a) {
					t.Error(p.name, n, i)
				}
				b[i] = was
			}
		}
	}
	one, two := of(1), of(2)
	for i, x := range []struct {
		a, b []api.Event
		same bool
	}{
		{nil, nil, true},
		{nil, []api.Event{}, true},
		{[]api.Event{}, []api.Event{}, true},
		{nil, []api.Event{{}}, false},
		{[]api.Event{one}, []api.Event{one, {}}, false},
		{[]api.Event{one}, []api.Event{one, one}, false},
		{[]api.Event{one, two}, []api.Event{two, one}, false},
		{[]api.Event{one, two}, []api.Event{one, two, one}[:2], true}, // what lies behind counts for nothing
		{[]api.Event{{}, {}}, []api.Event{{}, {}}, true},
	} {
		if event.Same(x.a, x.b) != x.same || event.Same(x.b, x.a) != x.same {
			t.Error(i, x.a, x.b)
		}
	}
}

func TestP21_2Trades(t *testing.T) {
	for _, kind := range append(kinds(), noKinds()...) {
		want := kind >= 1 && kind <= 7
		if event.Trades(api.Event{Kind: kind}) != want || event.Trades(of(kind)) != want {
			t.Error(kind)
		}
	}
}

func TestP21_2Count(t *testing.T) {
	l := []api.Event{of(4), of(1), of(4), of(15), of(0), of(4), of(-3)}
	for _, kind := range append(kinds(), noKinds()...) {
		want := 0
		for _, e := range l {
			if e.Kind == kind {
				want++
			}
		}
		if n := event.Count(l, kind); n != want {
			t.Error(kind, n, want)
		}
		if event.Count(nil, kind) != 0 || event.Count([]api.Event{}, kind) != 0 || event.Count(l[:0], kind) != 0 {
			t.Error(kind, "of none")
		}
	}
	if event.Count(l, 4) != 3 || event.Count(l, 0) != 1 || event.Count(l[:3], 4) != 2 || event.Count(l, -3) != 1 {
		t.Error("by hand")
	}
}

func TestP21_1WhatIsHandedInStays(t *testing.T) {
	l := many(rand.New(rand.NewSource(213)), 6)
	was := slices.Clone(l)
	first, _ := event.Bytes(l[:4])
	second, _ := event.Bytes(l[:4])
	if event.Same(l[:4], l[:5]) || event.Count(l[:4], 77) != 0 || !reflect.DeepEqual(l, was) {
		t.Error("turned", l)
	}
	b := slices.Clone(first)
	read, ok := event.Read(codec.Open(b))
	clear(b)
	clear(first)
	if !ok || !slices.Equal(read, was[:4]) || bytes.Equal(first, second) {
		t.Error("an answer is shared")
	}
}

func TestP21_3WhatIsWrittenIsRead(t *testing.T) {
	src := rand.New(rand.NewSource(214))
	for range 3000 {
		l := many(src, src.Intn(9))
		b, e := event.Bytes(l)
		if e != api.OK || !bytes.Equal(b, byWords(l)) {
			t.Fatal(l, b, int(e))
		}
		d := codec.Open(b)
		if read, ok := event.Read(d); !ok || !event.Same(read, l) || !slices.Equal(read, l) || d.End() != api.OK {
			t.Fatal(l, read, ok)
		}
	}
}

func TestP21_3WhatIsReadIsWritten(t *testing.T) {
	src := rand.New(rand.NewSource(215))
	read := 0
	for range 30000 {
		b := byWords(many(src, 1+src.Intn(3)))
		for range 1 + src.Intn(2) {
			b[src.Intn(len(b))] = byte(src.Intn(256))
		}
		d := codec.Open(b)
		l, ok := event.Read(d)
		if !ok {
			if len(l) != 0 || !d.Bad() {
				t.Fatal(b, l)
			}
			continue
		}
		read++
		written, e := event.Bytes(l)
		if e != api.OK || !bytes.Equal(written, b[:len(b)-d.Left()]) {
			t.Fatal(b, l, int(e))
		}
	}
	if read < 10000 {
		t.Error("too few are read", read)
	}
}
