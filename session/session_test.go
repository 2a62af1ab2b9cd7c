package session_test

import (
	"math"
	"math/rand"
	"slices"
	"testing"

	"jobber/api"
	"jobber/codec"
	"jobber/session"
)

func TestP28TheChaptersExample(t *testing.T) {
	l := events(1, 2)
	table := made(t, done{1, 5, l})
	looks(t, table, 1, 5, true, false, l)
	looks(t, table, 1, 4, false, true, nil)
	looks(t, table, 1, 6, false, false, nil)
}

func TestP28_1New(t *testing.T) {
	one, two := session.New(), session.New()
	if one == nil || two == nil || one == two {
		t.Fatal("no table, or one alone")
	}
	holds(t, one)
	one.Done(1, 1, nil)
	holds(t, two)
}

func TestP28_1OfNoTable(t *testing.T) {
	for _, table := range []*session.Table{nil, {}, new(session.Table)} {
		for _, client := range append(noClients(), 1, 8) {
			for _, req := range []uint64{0, 1, 5} { // that there is none comes first
				for _, l := range [][]api.Event{nil, events(1, 2), events(1, 257)} {
					if e := table.Done(client, req, l); e != api.ErrNil {
						t.Error(client, req, int(e))
					}
				}
				looks(t, table, client, req, false, false, nil)
			}
			table.Drop(client)
			if table.Last(client) != 0 {
				t.Error("Last", client)
			}
		}
		if table.Clone() != nil {
			t.Error("another one of none")
		}
		var w codec.Writer
		w.Nat(9)
		table.Put(&w)
		table.Put(nil)
		if !slices.Equal(w.Bytes(), []byte{9}) {
			t.Errorf("%x", w.Bytes())
		}
	}
}

func TestP28_1LookByHand(t *testing.T) {
	a, b := events(1, 3), events(2, 1)
	table := made(t, done{1, 5, a}, done{8, 1, b}, done{3, 7, nil})
	for _, c := range []struct {
		client, req uint64
		again, old  bool
		l           []api.Event
	}{
		{1, 0, false, false, nil}, {1, 1, false, true, nil}, {1, 4, false, true, nil}, {1, 5, true, false, a},
		{1, 6, false, false, nil}, {1, 1<<32 + 5, false, false, nil}, {1, math.MaxUint64, false, false, nil},
		{8, 0, false, false, nil}, {8, 1, true, false, b}, {8, 2, false, false, nil},
		{3, 0, false, false, nil}, {3, 6, false, true, nil}, {3, 7, true, false, nil}, {3, 8, false, false, nil},
		{2, 0, false, false, nil}, {2, 1, false, false, nil}, {2, 5, false, false, nil}, // it has asked nothing
		{0, 5, false, false, nil}, {9, 1, false, false, nil}, {1<<32 + 1, 5, false, false, nil},
	} {
		looks(t, table, c.client, c.req, c.again, c.old, c.l)
	}
	holds(t, table, done{1, 5, a}, done{8, 1, b}, done{3, 7, nil})
}

func TestP28_1DoneByHand(t *testing.T) {
	table := made(t)
	var l []done
	for client := uint64(1); client <= 8; client++ {
		for _, req := range []uint64{1, 2, 5, 1 << 32, 1<<63 - 1, 1 << 63, math.MaxUint64 - 1, math.MaxUint64} {
			is := events(int(client), int(req%4))
			if e := table.Done(client, req, is); e != api.OK {
				t.Fatal(client, req, int(e))
			}
			holds(t, table, append(l, done{client, req, is})...)
		}
		l = append(l, done{client, math.MaxUint64, events(int(client), 3)})
		refused(t, table, client, math.MaxUint64, nil, api.ErrOld) // there is none above it
	}
}

func TestP28_1DoneOfWhatMayNotBe(t *testing.T) {
	table := made(t, done{1, 5, events(1, 2)}, done{8, 1, nil})
	for _, l := range [][]api.Event{nil, events(3, 1), events(3, 256)} {
		for _, client := range noClients() {
			for _, req := range []uint64{0, 1, 5, 6, math.MaxUint64} {
				refused(t, table, client, req, l, api.ErrArg)
			}
		}
		for client := uint64(1); client <= 8; client++ {
			refused(t, table, client, 0, l, api.ErrArg)
		}
		for req := uint64(1); req <= 5; req++ {
			refused(t, table, 1, req, l, api.ErrOld)
		}
		refused(t, table, 8, 1, l, api.ErrOld)
	}
	holds(t, table, done{1, 5, events(1, 2)}, done{8, 1, nil})
}

func TestP28_1DoneOfTooMany(t *testing.T) {
	for _, n := range []int{257, 258, 300, 10000} {
		table, l := made(t, done{1, 5, events(1, 2)}), events(4, n)
		refused(t, table, 1, 6, l, api.ErrLong)
		refused(t, table, 2, 1, l, api.ErrLong)
		refused(t, table, 1, 5, l, api.ErrOld) // these are named first
		refused(t, table, 1, 1, l, api.ErrOld)
		refused(t, table, 1, 0, l, api.ErrArg)
		refused(t, table, 9, 6, l, api.ErrArg)
		refused(t, table, 0, 0, l, api.ErrArg)
		if e := table.Done(1, 6, l[:256]); e != api.OK {
			t.Error(int(e))
		}
		holds(t, table, done{1, 6, l[:256]})
	}
}

// Done asks nothing of events but how many they are.
func TestP28_1DoneOfAnyEvents(t *testing.T) {
	l := []api.Event{{}, {Kind: 16}, {Kind: -1, Code: -5}, {Kind: math.MinInt}, {}}
	holds(t, made(t, done{4, 4, l}), done{4, 4, l})
}

func TestP28_1EventsAreItsOwn(t *testing.T) {
	room := events(1, 6)
	was := slices.Clone(room)
	table := made(t, done{1, 5, room[:3]})
	if !slices.Equal(room, was) {
		t.Error("what was handed in is changed")
	}
	for i := range room {
		room[i].Qty = 77
	}
	_, _, one := table.Look(1, 5)
	_, _, two := table.Look(1, 5)
	if !slices.Equal(one, was[:3]) {
		t.Error("it follows what was handed in", one)
	}
	clear(one[:cap(one)])
	_ = append(two[:1], api.Event{Qty: 55})
	if two[0] != was[0] {
		t.Error("two answers are one")
	}
	holds(t, table, done{1, 5, was[:3]})
}

func TestP28_1Drop(t *testing.T) {
	a, b, c := done{1, 5, events(1, 2)}, done{3, 9, nil}, done{8, math.MaxUint64, events(2, 1)}
	table := made(t, a, b, c)
	table.Drop(2) // it has asked nothing
	for _, client := range noClients() {
		table.Drop(client)
	}
	holds(t, table, a, b, c)
	table.Drop(3)
	holds(t, table, a, c)
	table.Drop(3)
	table.Drop(8)
	holds(t, table, a)
	anew := done{8, 1, events(5, 1)} // it may ask from 1 on again
	if e := table.Done(8, 1, anew.l); e != api.OK {
		t.Error(int(e))
	}
	holds(t, table, a, anew)
	table.Drop(1)
	table.Drop(8)
	holds(t, table)
}

func TestP28_1Clone(t *testing.T) {
	holds(t, made(t).Clone())
	a, b, c := done{1, 5, events(1, 2)}, done{3, 9, events(2, 1)}, done{8, 2, nil}
	one := made(t, a, b, c)
	two := one.Clone()
	if two == one {
		t.Fatal("it is the same one")
	}
	holds(t, two, a, b, c)
	more, other := done{1, 6, events(3, 1)}, done{1, 7, events(4, 2)}
	if e := one.Done(1, 6, more.l); e != api.OK {
		t.Error(int(e))
	}
	one.Drop(3)
	holds(t, one, more, c)
	holds(t, two, a, b, c)
	if e := two.Done(1, 7, other.l); e != api.OK {
		t.Error(int(e))
	}
	two.Drop(8)
	holds(t, two, other, b)
	holds(t, one, more, c)
	_, _, l := two.Look(3, 9)
	clear(l)
	holds(t, two, other, b)
}

// What is done once is told again as it was, and never done again, whatever comes; a plain list tells the same, call by call.
func TestP28_3AgainstAList(t *testing.T) {
	src := rand.New(rand.NewSource(283))
	codes := map[api.Errno]int{}
	for range 40 {
		table, l := made(t), list{}
		for range 200 {
			d := l.some(src)
			was := slices.Clone(d.l)
			want := l.do(d)
			if e := table.Done(d.client, d.req, d.l); e != want || !slices.Equal(d.l, was) {
				t.Fatal(d, int(e), int(want))
			}
			codes[want]++
			clear(d.l) // it is not kept
			if src.Intn(25) == 0 {
				table.Drop(d.client)
				l = slices.DeleteFunc(l, func(was done) bool { return was.client == d.client })
			}
			switch src.Intn(25) {
			case 0:
				table = table.Clone()
			case 1:
				holds(t, table, l.lasts()...)
				next, ok := session.Read(codec.Open(written(table)))
				if !ok {
					t.Fatal("not read", l)
				}
				table = next
			}
		}
		holds(t, table, l.lasts()...)
	}
	for _, e := range []api.Errno{api.OK, api.ErrArg, api.ErrOld, api.ErrLong} {
		if codes[e] < 50 {
			t.Error("hardly ever", int(e), codes)
		}
	}
}
