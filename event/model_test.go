package event_test

import (
	"encoding/binary"
	"math"
	"math/rand"

	"jobber/api"
	"jobber/codec"
	"jobber/event"
)

// part is a field of an event: its name, how it is written, and how a number is put there.
type part struct {
	name string
	nat  bool
	get  func(e api.Event) int64
	set  func(e *api.Event, n int64)
}

// parts are all fields, in the order in which the chapter writes them.
func parts() []part {
	return []part{
		{"Kind", false, func(e api.Event) int64 { return int64(e.Kind) }, func(e *api.Event, n int64) { e.Kind = int(n) }},
		{"Account", false, func(e api.Event) int64 { return int64(e.Account) }, func(e *api.Event, n int64) { e.Account = int(n) }},
		{"ID", true, func(e api.Event) int64 { return int64(e.ID) }, func(e *api.Event, n int64) { e.ID = uint64(n) }},
		{"Other", true, func(e api.Event) int64 { return int64(e.Other) }, func(e *api.Event, n int64) { e.Other = uint64(n) }},
		{"Side", false, func(e api.Event) int64 { return int64(e.Side) }, func(e *api.Event, n int64) { e.Side = int(n) }},
		{"Price", false, func(e api.Event) int64 { return e.Price }, func(e *api.Event, n int64) { e.Price = n }},
		{"Qty", false, func(e api.Event) int64 { return e.Qty }, func(e *api.Event, n int64) { e.Qty = n }},
		{"Fee", false, func(e api.Event) int64 { return e.Fee }, func(e *api.Event, n int64) { e.Fee = n }},
		{"Fee2", false, func(e api.Event) int64 { return e.Fee2 }, func(e *api.Event, n int64) { e.Fee2 = n }},
		{"Code", false, func(e api.Event) int64 { return int64(e.Code) }, func(e *api.Event, n int64) { e.Code = api.Errno(n) }},
		{"Version", false, func(e api.Event) int64 { return int64(e.Version) }, func(e *api.Event, n int64) { e.Version = int(n) }},
		{"Index", true, func(e api.Event) int64 { return int64(e.Index) }, func(e *api.Event, n int64) { e.Index = uint64(n) }},
	}
}

// byWords tells events' bytes by the chapter's words.
func byWords(l []api.Event) []byte {
	b := binary.AppendUvarint(nil, uint64(len(l)))
	for _, e := range l {
		for _, p := range parts() {
			if p.nat {
				b = binary.AppendUvarint(b, uint64(p.get(e)))
			} else {
				b = binary.AppendVarint(b, p.get(e))
			}
		}
	}
	return b
}

// putAlone tells what Put writes behind nothing.
func putAlone(l []api.Event) []byte {
	var w codec.Writer
	event.Put(&w, l)
	return w.Bytes()
}

// wild tells numbers of all sizes.
func wild() []int64 {
	return []int64{0, 1, -1, 2, 63, 64, -64, -65, 127, 128, 300, 1 << 32, -1 << 40, 1<<62 + 1, math.MaxInt64, math.MinInt64, math.MinInt64 + 1}
}

// kinds are all kinds.
func kinds() []int {
	return []int{1, 2, 3, 4, 5, 6, 7, 8, 9, 10, 11, 12, 13, 14, 15}
}

// noKinds tells numbers that are no kind.
func noKinds() []int {
	return []int{0, 16, 17, 100, -1, -2, -15, 1<<32 + 1, 1<<32 + 15, math.MinInt, math.MinInt + 1, math.MaxInt}
}

// of tells an event of a kind, with another number in each field.
func of(kind int) api.Event {
	return api.Event{
		Kind: kind, Account: 2, ID: 3, Other: 4, Side: 5, Price: 6, Qty: -7,
		Fee: 8, Fee2: 9, Code: api.ErrBig, Version: 11, Index: 12,
	}
}

// many tells so many events that chance chooses, of all kinds, of small numbers and great ones.
func many(src *rand.Rand, n int) []api.Event {
	var l []api.Event
	for range n {
		var e api.Event
		for _, p := range parts() {
			p.set(&e, int64(src.Uint64())>>src.Intn(64))
		}
		e.Kind = 1 + src.Intn(15)
		l = append(l, e)
	}
	return l
}
