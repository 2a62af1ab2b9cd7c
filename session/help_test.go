package session_test

import (
	"encoding/binary"
	"maps"
	"math"
	"math/rand"
	"slices"
	"testing"

	"jobber/api"
	"jobber/codec"
	"jobber/event"
	"jobber/session"
)

// done is what a client asked last, and what came of it.
type done struct {
	client, req uint64
	l           []api.Event
}

// events tells so many events, each of them another one, and other ones of another seed.
func events(seed, n int) []api.Event {
	var l []api.Event
	for i := range n {
		l = append(l, api.Event{
			Kind: 1 + (seed+i)%15, Account: seed, ID: uint64(i), Other: math.MaxUint64, Side: -1, Price: int64(seed) << 40,
			Qty: math.MinInt64, Fee: 5, Fee2: -6, Code: api.ErrFunds, Version: 32, Index: 1 << 62,
		})
	}
	return l
}

// made tells a table in which these were done.
func made(t *testing.T, l ...done) *session.Table {
	t.Helper()
	table := session.New()
	if table == nil {
		t.Fatal("no table")
	}
	for _, d := range l {
		if e := table.Done(d.client, d.req, d.l); e != api.OK {
			t.Fatal(d.client, d.req, int(e))
		}
	}
	return table
}

// looks holds what a table tells of a Req.
func looks(t *testing.T, table *session.Table, client, req uint64, again, old bool, want []api.Event) {
	t.Helper()
	if a, o, l := table.Look(client, req); a != again || o != old || !slices.Equal(l, want) {
		t.Errorf("Look(%d, %d): %v, %v, %v, want %v, %v, %v", client, req, a, o, l, again, old, want)
	}
}

// noClients are numbers of which there is no client.
func noClients() []uint64 {
	return []uint64{0, 9, 10, 16, 255, 256, 257, 1<<32 + 1, 1 << 63, math.MaxUint64}
}

// around tells a Req, and those about it, but none twice, and not 0.
func around(req uint64) []uint64 {
	l := []uint64{1, 2, req / 2, req - 1, req, req + 1, req + 2, 2 * req, math.MaxUint64 - 1, math.MaxUint64}
	slices.Sort(l)
	return slices.DeleteFunc(slices.Compact(l), func(n uint64) bool { return n == 0 })
}

// holds holds a table against what was done last by each client that has asked.
func holds(t *testing.T, table *session.Table, l ...done) {
	t.Helper()
	for client := uint64(1); client <= 8; client++ {
		var last done
		if i := slices.IndexFunc(l, func(d done) bool { return d.client == client }); i >= 0 {
			last = l[i]
		}
		if n := table.Last(client); n != last.req {
			t.Errorf("Last(%d): %d, want %d", client, n, last.req)
		}
		looks(t, table, client, 0, false, false, nil)
		for _, req := range around(last.req) {
			switch {
			case req == last.req:
				looks(t, table, client, req, true, false, last.l)
			default:
				looks(t, table, client, req, false, req < last.req, nil)
			}
		}
	}
	for _, client := range noClients() {
		if table.Last(client) != 0 {
			t.Error("Last", client)
		}
		for _, req := range []uint64{0, 1, math.MaxUint64} {
			looks(t, table, client, req, false, false, nil)
		}
	}
	if b := written(table); !slices.Equal(b, byWords(l...)) {
		t.Errorf("%x\nnot\n%x", b, byWords(l...))
	}
}

// refused holds that something may not be done, and that nothing turns.
func refused(t *testing.T, table *session.Table, client, req uint64, l []api.Event, want api.Errno) {
	t.Helper()
	was := written(table)
	if e := table.Done(client, req, l); e != want {
		t.Errorf("Done(%d, %d, %d): %d, want %d", client, req, len(l), int(e), int(want))
	}
	if !slices.Equal(written(table), was) {
		t.Errorf("Done(%d, %d, %d): turned", client, req, len(l))
	}
}

// written tells a table's bytes.
func written(table *session.Table) []byte {
	var w codec.Writer
	table.Put(&w)
	return w.Bytes()
}

// inOrder tells what was done as it comes, number by number, whether it rises or not.
func inOrder(l ...done) []byte {
	b := binary.AppendUvarint(nil, uint64(len(l)))
	for _, d := range l {
		var w codec.Writer
		event.Put(&w, d.l)
		b = binary.AppendUvarint(b, d.client)
		b = binary.AppendUvarint(b, d.req)
		b = append(b, w.Bytes()...)
	}
	return b
}

// byWords tells by the chapter's words the bytes of a table in which these were done.
func byWords(l ...done) []byte {
	rising := slices.SortedFunc(slices.Values(l), func(a, b done) int { return int(a.client) - int(b.client) })
	return inOrder(rising...)
}

// none holds that no table is read, and that the reader is bad then.
func none(t *testing.T, b []byte, why ...any) {
	t.Helper()
	d := codec.Open(b)
	if table, ok := session.Read(d); table != nil || ok || !d.Bad() || d.Left() != 0 || d.End() != api.ErrForm {
		t.Error(why, "it was read")
	}
}

// list is what a table should have: all that was ever done, of those that were not dropped since.
type list []done

// last tells what a client asked last: the greatest Req of all.
func (l list) last(client uint64) done {
	last := done{client: client}
	for _, d := range l {
		if d.client == client && d.req > last.req {
			last = d
		}
	}
	return last
}

// lasts tells that of each client that has asked.
func (l list) lasts() []done {
	all := map[uint64]done{}
	for _, d := range l {
		all[d.client] = l.last(d.client)
	}
	return slices.Collect(maps.Values(all))
}

// do tells by the chapter's words whether something may be done, and does it.
func (l *list) do(d done) api.Errno {
	switch {
	case d.client < 1 || d.client > 8 || d.req == 0:
		return api.ErrArg
	case slices.ContainsFunc(*l, func(was done) bool { return was.client == d.client && was.req >= d.req }):
		return api.ErrOld
	case len(d.l) > 256:
		return api.ErrLong
	}
	*l = append(*l, done{d.client, d.req, slices.Clone(d.l)})
	return api.OK
}

// some tells something that is chosen, most often such as may be done.
func (l list) some(src *rand.Rand) done {
	d := done{client: 1 + uint64(src.Intn(8))}
	d.req = l.last(d.client).req + uint64(src.Intn(4))
	switch src.Intn(30) {
	case 0:
		d.client = noClients()[src.Intn(10)]
	case 1:
		d.req = uint64(src.Intn(3))
	case 2:
		d.l = events(src.Intn(9), 250+src.Intn(10))
		return d
	}
	d.l = events(src.Intn(9), src.Intn(4))
	return d
}
