package session_test

import (
	"math"
	"math/rand"
	"slices"
	"strings"
	"testing"

	"jobber/api"
	"jobber/codec"
	"jobber/session"
)

// full tells something done by each client.
func full() []done {
	var l []done
	for i := range uint64(8) {
		l = append(l, done{8 - i, 1 << (9 * i), events(int(i), int(i%3))})
	}
	return l
}

func TestP28_2PutByHand(t *testing.T) {
	noop := api.Event{Kind: api.EvNoop}
	one := "\x1e" + strings.Repeat("\x00", 11) // its kind, and noughts
	for i, x := range []struct {
		l    []done
		want string
	}{
		{nil, "\x00"},
		{[]done{{1, 1, nil}}, "\x01\x01\x01\x00"},
		{[]done{{8, 300, []api.Event{noop}}}, "\x01\x08\xac\x02\x01" + one},
		{[]done{{5, 2, nil}, {3, 1, []api.Event{noop, noop}}, {4, 7, nil}}, "\x03\x03\x01\x02" + one + one + "\x04\x07\x00\x05\x02\x00"},
		{[]done{{2, math.MaxUint64, nil}}, "\x01\x02\xff\xff\xff\xff\xff\xff\xff\xff\xff\x01\x00"},
	} {
		if b := written(made(t, x.l...)); string(b) != x.want {
			t.Errorf("%d: %x, want %x", i, b, x.want)
		}
		if b := byWords(x.l...); string(b) != x.want {
			t.Errorf("%d, by the words: %x, want %x", i, b, x.want)
		}
	}
}

func TestP28_2PutBehindWhatIsThere(t *testing.T) {
	table := made(t, full()...)
	var w codec.Writer
	w.Nat(300)
	table.Put(&w)
	made(t).Put(&w)
	table.Put(&w)
	b := byWords(full()...)
	if !slices.Equal(w.Bytes(), slices.Concat([]byte{0xac, 2}, b, []byte{0}, b)) {
		t.Errorf("%x", w.Bytes())
	}
	table.Put(nil)
	holds(t, table, full()...)
}

func TestP28_2Read(t *testing.T) {
	most := done{7, 7, events(7, 256)}
	all := [][]done{nil, {{1, 1, nil}}, {{8, math.MaxUint64, events(1, 3)}}, full(), {most}, nil, {{2, 5, events(3, 1)}, {1, 1 << 63, nil}}}
	b := []byte{9}
	for _, l := range all {
		b = append(b, byWords(l...)...)
	}
	was := slices.Clone(b)
	d := codec.Open(append(b, 3))
	d.Nat(9)
	for i, l := range all {
		table, ok := session.Read(d)
		if !ok || table == nil || d.Bad() {
			t.Fatal(i)
		}
		holds(t, table, l...)
	}
	if d.Left() != 1 || !slices.Equal(b, was) {
		t.Error(d.Left(), "left")
	}
}

func TestP28_2WhatIsReadGoesOnAlike(t *testing.T) {
	b := byWords(full()...)
	one, _ := session.Read(codec.Open(b))
	two, _ := session.Read(codec.Open(b))
	clear(b)
	more := done{3, 1 << 60, events(9, 2)}
	if e := one.Done(3, 1<<60, more.l); e != api.OK {
		t.Error(int(e))
	}
	one.Drop(4)
	holds(t, two, full()...)
	rest := slices.DeleteFunc(full(), func(d done) bool { return d.client == 3 || d.client == 4 })
	holds(t, one, append(rest, more)...)
	refused(t, two, 8, 1, nil, api.ErrOld)
}

func TestP28_2ReadWhereNoneIs(t *testing.T) {
	if table, ok := session.Read(nil); table != nil || ok {
		t.Error("nil")
	}
	plain := new(codec.Reader)
	if table, ok := session.Read(plain); table != nil || ok || !plain.Bad() {
		t.Error("a reader of nothing")
	}
	for _, b := range [][]byte{{0}, byWords(full()...)} {
		d := codec.Open(b)
		d.Fail()
		if table, ok := session.Read(d); table != nil || ok || !d.Bad() {
			t.Error("a bad reader")
		}
		for n := range b {
			none(t, b[:n], "torn", n)
			none(t, b[:n:n], "torn", n)
		}
	}
	none(t, nil, "no bytes")
}

func TestP28_2ReadOfClientsThatMayNotBe(t *testing.T) {
	for _, client := range noClients() {
		none(t, inOrder(done{client, 1, nil}), client)
		none(t, inOrder(done{1, 1, nil}, done{client, 1, nil}), client, "behind one")
		none(t, inOrder(done{client, 1, nil}, done{8, 1, nil}), client, "ahead of one")
	}
	for a := uint64(1); a <= 8; a++ {
		for b := uint64(1); b <= 8; b++ {
			l := []done{{a, 1, events(1, 1)}, {b, 2, nil}} // of one client, too, though its Reqs rise
			if table, ok := session.Read(codec.Open(inOrder(l...))); ok != (a < b) {
				t.Error(a, b, ok)
			} else if ok {
				holds(t, table, l...)
			} else {
				none(t, append(inOrder(l...), 0, 0, 0), a, b)
			}
		}
	}
	none(t, inOrder(done{1, 1, nil}, done{3, 1, nil}, done{2, 1, nil}), "the last one falls")
	none(t, inOrder(done{2, 1, nil}, done{1, 1, nil}, done{3, 1, nil}), "the second one falls")
	for n := uint64(9); n < 12; n++ { // more than there are
		var l []done
		for client := range n {
			l = append(l, done{client + 1, 1, nil})
		}
		none(t, inOrder(l...), n)
		none(t, append([]byte{byte(n)}, byWords(full()...)[1:]...), n, "of 8")
	}
	for _, front := range []string{"\x81\x00", "\x80\x80\x00", "\xff\xff\xff\xff\xff\xff\xff\xff\xff\x01", "\x81\x80\x80\x80\x10"} {
		none(t, []byte(front+"\x01\x01\x00"+strings.Repeat("\x00", 50)), front)
	}
}

func TestP28_2ReadOfReqsThatMayNotBe(t *testing.T) {
	none(t, inOrder(done{1, 0, nil}), "a Req of 0")
	none(t, inOrder(done{8, 0, events(1, 2)}), "a Req of 0")
	none(t, inOrder(done{1, 1, nil}, done{2, 0, nil}, done{3, 1, nil}), "a Req of 0")
	for _, req := range []string{"\x80\x00", "\x81\x00", "\xff\xff\xff\xff\xff\xff\xff\xff\xff\x02", "\xff\xff\xff\xff\xff\xff\xff\xff\xff\xff\x01"} {
		none(t, []byte("\x01\x01"+req+"\x00"), req)
		none(t, []byte("\x01\x01"+req+"\x00\x00\x00"), req)
	}
}

func TestP28_2ReadOfEventsThatMayNotBe(t *testing.T) {
	for _, kind := range []int{0, -1, 16, 17, 1<<32 + 1, math.MinInt, math.MaxInt} {
		for i := range 3 {
			l := events(2, 3)
			l[i].Kind = kind
			none(t, inOrder(done{1, 1, l}), kind)
			none(t, inOrder(done{1, 1, nil}, done{2, 1, l}, done{3, 1, nil}), kind)
		}
	}
	none(t, inOrder(done{1, 1, events(1, 257)}), "too many")
	none(t, inOrder(done{1, 1, events(1, 257)}, done{2, 1, nil}), "too many")
	none(t, []byte("\x01\x01\x01\x80\x00"), "how many, not in its one form")
	none(t, []byte("\x01\x01\x01\x01\x1e\x80\x00"+strings.Repeat("\x00", 20)), "an account likewise")
}

func TestP28_3EveryByteCounts(t *testing.T) {
	src := rand.New(rand.NewSource(284))
	read := 0
	for i := range 40000 {
		b := byWords(full()[i%5:]...)
		for range 1 + src.Intn(2) {
			b[src.Intn(len(b))] = byte(src.Intn(256))
		}
		d := codec.Open(b)
		table, ok := session.Read(d)
		if !ok {
			none(t, b, i)
			continue
		}
		read++
		if !slices.Equal(written(table), b[:len(b)-d.Left()]) {
			t.Fatalf("%x\nis not\n%x", written(table), b)
		}
	}
	if read < 5000 {
		t.Error("hardly ever read", read)
	}
}
