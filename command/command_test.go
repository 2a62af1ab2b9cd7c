package command_test

import (
	"bytes"
	"math"
	"math/rand"
	"reflect"
	"slices"
	"testing"

	"jobber/api"
	"jobber/command"
	"jobber/rules"
)

// three tells threes.
func three() int64 { return 3 }

func TestP20_1SoundOfEachKind(t *testing.T) {
	for _, kind := range kinds() {
		for _, number := range []func() int64{three, func() int64 { return 0 }} {
			if c := sound(kind, number); !command.Sound(c) {
				t.Error(c)
			}
		}
		for _, p := range parts() {
			for _, n := range wild() {
				c := sound(kind, three)
				p.set(&c, n)
				has := slices.Contains(named(kind), p.name)
				if got := command.Sound(c); got != (has || n == 0) {
					t.Error(kind, p.name, n, got)
				}
				if _, e := command.Bytes(c); (e == api.OK) != (has || n == 0) || e != api.OK && e != api.ErrArg {
					t.Error(kind, p.name, n, int(e))
				}
			}
		}
	}
	for _, kind := range noKinds() {
		if command.Sound(api.Command{Kind: kind}) || command.Sound(api.Command{Kind: kind, Client: 1, Req: 2}) {
			t.Error(kind)
		}
	}
}

func TestP20_1SoundOfClients(t *testing.T) {
	for _, kind := range kinds() {
		for _, req := range []uint64{0, 1, 1 << 62, math.MaxUint64} {
			for _, client := range []uint64{0, 1, 7, 8, 9, 10, 1 << 32, 1 << 63, math.MaxUint64} {
				c := sound(kind, three)
				c.Client, c.Req = client, req
				if got := command.Sound(c); got != (client <= 8) {
					t.Error(kind, client, req, got)
				}
			}
		}
	}
}

// rulesParts tells rule sets of which one thing alone is not zero.
func rulesParts() []api.Rules {
	return []api.Rules{
		{Version: 1}, {Ticks: []api.Tick{{}}}, {Lot: 1}, {Band: 1}, {Fees: []api.Tier{{}}},
		{Round: 1}, {Priority: 1}, {Self: 1}, {Layout: 1}, small(), great(),
	}
}

func TestP20_1SoundOfRules(t *testing.T) {
	for _, kind := range kinds() {
		if kind == api.CmdPropose {
			continue
		}
		for i, r := range rulesParts() {
			c := sound(kind, three)
			c.Rules = r
			if command.Sound(c) {
				t.Error(kind, i)
			}
		}
		c := sound(kind, three)
		c.Rules.Ticks, c.Rules.Fees = []api.Tick{}, []api.Tier{} // as none
		if !command.Sound(c) {
			t.Error(kind, "empty lists")
		}
	}
	propose := func(r api.Rules) bool { return command.Sound(api.Command{Kind: api.CmdPropose, Client: 1, Rules: r}) }
	if !propose(small()) || !propose(great()) || propose(api.Rules{}) {
		t.Error("propose")
	}
	for i, spoil := range []func(r *api.Rules){
		func(r *api.Rules) { r.Version = 0 },
		func(r *api.Rules) { r.Version = 33 },
		func(r *api.Rules) { r.Ticks = nil },
		func(r *api.Rules) { r.Ticks = []api.Tick{{From: 1, Size: 1}} },
		func(r *api.Rules) { r.Ticks = append(great().Ticks, api.Tick{From: api.MaxPrice, Size: 1}) },
		func(r *api.Rules) { r.Lot = 0 },
		func(r *api.Rules) { r.Band = -1 },
		func(r *api.Rules) { r.Fees = nil },
		func(r *api.Rules) { r.Fees = []api.Tier{{From: 1}} },
		func(r *api.Rules) { r.Round = 4 },
		func(r *api.Rules) { r.Priority = 3 },
		func(r *api.Rules) { r.Self = 5 },
		func(r *api.Rules) { r.Layout = 3 },
	} {
		r := small()
		spoil(&r)
		if propose(r) {
			t.Error(i)
		}
		if b, e := command.Bytes(api.Command{Kind: api.CmdPropose, Rules: r}); e != api.ErrArg || len(b) != 0 {
			t.Error(i, b, int(e))
		}
	}
}

func TestP20_1Trades(t *testing.T) {
	for _, kind := range append(kinds(), noKinds()...) {
		if got := command.Trades(kind); got != (kind >= 1 && kind <= 8) {
			t.Error(kind, got)
		}
	}
}

func TestP20_1Same(t *testing.T) {
	full := api.Command{
		Kind: 1, Client: 2, Req: 3, Account: 4, ID: 5, Side: 6, Type: 7, Asset: 8,
		Price: 9, Qty: 10, Version: 11, Replica: 12, At: 13, Rules: great(),
	}
	changes := []func(c *api.Command){
		func(c *api.Command) { c.Kind += 1 << 40 },
		func(c *api.Command) { c.Client += 1 << 63 },
		func(c *api.Command) { c.Req++ },
		func(c *api.Command) { c.Rules.Version++ },
		func(c *api.Command) { c.Rules.Ticks[7].Size++ },
		func(c *api.Command) { c.Rules.Ticks = c.Rules.Ticks[:7] },
		func(c *api.Command) { c.Rules.Lot++ },
		func(c *api.Command) { c.Rules.Band++ },
		func(c *api.Command) { c.Rules.Fees[0].Taker++ },
		func(c *api.Command) { c.Rules.Fees = nil },
		func(c *api.Command) { c.Rules.Round++ },
		func(c *api.Command) { c.Rules.Priority++ },
		func(c *api.Command) { c.Rules.Self++ },
		func(c *api.Command) { c.Rules.Layout++ },
	}
	for _, p := range parts() {
		for _, n := range []int64{1, -1, 1 << 40, math.MinInt64} {
			changes = append(changes, func(c *api.Command) { p.set(c, p.get(*c)+n) })
		}
	}
	for i, change := range changes {
		a, b := full, full
		a.Rules, b.Rules = great(), great()
		if !command.Same(a, b) {
			t.Fatal(i, "not the same")
		}
		change(&b)
		if command.Same(a, b) || command.Same(b, a) {
			t.Error(i, b)
		}
		change(&a)
		if !command.Same(a, b) {
			t.Error(i, "changed alike", b)
		}
	}
	empty := api.Command{Rules: api.Rules{Ticks: []api.Tick{}, Fees: []api.Tier{}}}
	if !command.Same(api.Command{}, empty) || !command.Same(empty, api.Command{}) {
		t.Error("empty lists")
	}
	swapped := full
	swapped.Price, swapped.Qty = full.Qty, full.Price
	if command.Same(full, swapped) {
		t.Error("two fields swapped")
	}
}

func TestP20_2ByHand(t *testing.T) {
	for _, x := range []struct {
		c api.Command
		b []byte
	}{
		{api.Command{Kind: api.CmdNoop, Client: 1, Req: 2}, []byte{0x0f, 1, 2}}, // the chapter's
		{api.Command{Kind: api.CmdHalt}, []byte{6, 0, 0}},
		{api.Command{Kind: api.CmdUncross, Client: 8, Req: 300}, []byte{7, 8, 0xac, 2}},
		{api.Command{Kind: api.CmdUnshade, Req: math.MaxUint64}, []byte{12, 0, 255, 255, 255, 255, 255, 255, 255, 255, 255, 1}},
		{api.Command{Kind: api.CmdRollback, Client: 3}, []byte{14, 3, 0}},
		{api.Command{Kind: api.CmdDeposit, Client: 1, Req: 2, Account: 3, Asset: 1, Qty: 100}, []byte{1, 1, 2, 6, 2, 0xc8, 1}},
		{api.Command{Kind: api.CmdWithdraw, Client: 1, Req: 2, Account: -1, Asset: 2, Qty: -2}, []byte{2, 1, 2, 1, 4, 3}},
		{api.Command{Kind: api.CmdPlace, Account: 7, ID: 9, Side: 1, Type: 5, Price: 12, Qty: 10}, []byte{3, 0, 0, 14, 9, 2, 10, 24, 20}},
		{api.Command{Kind: api.CmdCancel, Account: 7, ID: 300}, []byte{4, 0, 0, 14, 0xac, 2}},
		{api.Command{Kind: api.CmdReplace, Account: 7, ID: 9, Price: 12, Qty: 10}, []byte{5, 0, 0, 14, 9, 24, 20}},
		{api.Command{Kind: api.CmdSettle, Account: 7}, []byte{8, 0, 0, 14}},
		{api.Command{Kind: api.CmdAck, Replica: 2, Version: 3}, []byte{10, 0, 0, 4, 6}},
		{api.Command{Kind: api.CmdShade, Version: 3}, []byte{11, 0, 0, 6}},
		{api.Command{Kind: api.CmdActivate, Version: 3, At: 40}, []byte{13, 0, 0, 6, 40}},
		{api.Command{Kind: api.CmdPropose, Client: 1, Req: 2, Rules: small()}, []byte{9, 1, 2, 2, 1, 0, 2, 2, 0, 1, 0, 0, 0, 2, 2, 2, 2}},
	} {
		if b, e := command.Bytes(x.c); e != api.OK || !slices.Equal(b, x.b) {
			t.Error(x.c, b, int(e))
		}
		if c, e := command.Read(x.b); e != api.OK || !reflect.DeepEqual(c, x.c) {
			t.Error(x.b, c, int(e))
		}
		if words := byWords(x.c); !slices.Equal(words, x.b) {
			t.Error(x.c, "by the words", words)
		}
	}
}

func TestP20_2BytesByItsWords(t *testing.T) {
	for _, c := range chosen(201, 2000) {
		if b, e := command.Bytes(c); e != api.OK || !slices.Equal(b, byWords(c)) {
			t.Fatal(c, b, int(e), "not", byWords(c))
		}
	}
}

func TestP20_2TheLongest(t *testing.T) {
	for _, kind := range kinds() {
		c := sound(kind, func() int64 { return math.MinInt64 })
		c.Req = math.MaxUint64
		if kind == api.CmdPropose {
			c.Rules = great()
		}
		b, e := command.Bytes(c)
		if e != api.OK || len(b) > api.MaxCommand {
			t.Error(kind, len(b), int(e))
		}
		if got, e := command.Read(b); e != api.OK || !command.Same(got, c) {
			t.Error(kind, got, int(e))
		}
	}
}

// refused tells whether bytes are read as no command, for that reason.
func refused(b []byte, want api.Errno) bool {
	c, e := command.Read(b)
	return e == want && reflect.DeepEqual(c, api.Command{})
}

func TestP20_2ReadOfLong(t *testing.T) {
	noop := []byte{15, 1, 2}
	for _, n := range []int{513, 514, 1024, 1 << 20} {
		if !refused(make([]byte, n), api.ErrLong) || !refused(append(slices.Clone(noop), make([]byte, n-3)...), api.ErrLong) {
			t.Error(n)
		}
	}
	for _, n := range []int{1, 509} {
		if !refused(append(slices.Clone(noop), make([]byte, n)...), api.ErrForm) {
			t.Error(n)
		}
	}
	room := append(slices.Clone(noop), make([]byte, 600)...)
	if c, e := command.Read(room[:3]); e != api.OK || c.Req != 2 { // what lies behind counts for nothing
		t.Error(c, int(e))
	}
}

func TestP20_2ReadOfNone(t *testing.T) {
	for i, b := range [][]byte{
		nil,
		{},
		{0},
		{0, 0, 0}, // no kind
		{16, 0, 0},
		{127, 0, 0},
		{0x81, 0x80, 4, 0, 0}, // 2^16 + 1
		{0x81, 0x80, 0x80, 0x80, 0x10, 0, 0, 2, 2, 2},                   // 2^32 + 1, and a Deposit's fields
		{0xff, 0xff, 0xff, 0xff, 0xff, 0xff, 0xff, 0xff, 0xff, 1, 0, 0}, // 2^64 - 1
		{0x8f, 0, 1, 2},  // 15, not in its one form
		{15, 0x81, 0, 2}, // the client likewise
		{15, 1, 0x82, 0}, // and Req
		{15, 9, 2},       // no such client
		{15, 0xff, 0xff, 0xff, 0xff, 0xff, 0xff, 0xff, 0xff, 0xff, 1, 2}, // 2^64 - 1
		{15, 1, 0xff, 0xff, 0xff, 0xff, 0xff, 0xff, 0xff, 0xff, 0xff, 2}, // 2^64 and more
		{15, 1},            // too short
		{15, 1, 0x82},      // too short
		{15, 1, 2, 0},      // too long
		{8, 0, 0},          // no account
		{8, 0, 0, 0x8e, 0}, // an account, not in its one form
		{8, 0, 0, 14, 14},  // one too many
		{4, 0, 0, 14},      // no ID
		{13, 0, 0, 6},      // no At
		{9, 1, 2},          // no rules
		{9, 1, 2, 2, 1, 0, 2, 2, 0, 1, 0, 0, 0, 2, 2, 2},                            // too short
		{9, 1, 2, 2, 1, 0, 2, 2, 0, 1, 0, 0, 0, 2, 2, 2, 6},                         // no layout
		{9, 1, 2, 0, 1, 0, 2, 2, 0, 1, 0, 0, 0, 2, 2, 2, 2},                         // no version
		{9, 1, 2, 2, 0, 2, 0, 1, 0, 0, 0, 2, 2, 2, 2},                               // no ticks
		{9, 1, 2, 2, 9, 0, 2, 2, 2, 4, 2, 6, 2, 8, 2, 10, 2, 12, 2, 14, 2, 16, 2},   // nine of them
		{9, 1, 2, 2, 1, 0, 2, 2, 0, 1, 0, 0, 0, 2, 2, 2, 2, 0},                      // too long
		{15, 1, 2, 2, 1, 0, 2, 2, 0, 1, 0, 0, 0, 2, 2, 2, 2},                        // rules of a Noop
		{3, 0, 0, 14, 9, 2, 10, 24},                                                 // no quantity
		{3, 0, 0, 14, 9, 2, 10, 24, 20, 0},                                          // one too many
		{1, 1, 2, 6, 2, 0x80, 0x80, 0x80, 0x80, 0x80, 0x80, 0x80, 0x80, 0x80, 2},    // 2^64
		{1, 1, 2, 6, 2, 0x80, 0x80, 0x80, 0x80, 0x80, 0x80, 0x80, 0x80, 0x80, 0, 1}, // no one form
	} {
		if !refused(b, api.ErrForm) {
			t.Error(i, b)
		}
	}
}

func TestP20_2ReadOfPieces(t *testing.T) {
	for _, c := range chosen(202, 100) {
		b := byWords(c)
		for n := range b {
			if !refused(b[:n], api.ErrForm) {
				t.Fatal(c, n)
			}
		}
		for _, more := range []byte{0, 1, 128, 255} {
			if !refused(append(slices.Clone(b), more), api.ErrForm) {
				t.Fatal(c, more)
			}
		}
	}
}

func TestP20_2WhatIsHandedInStays(t *testing.T) {
	c := api.Command{Kind: api.CmdPropose, Client: 1, Req: 2, Rules: great()}
	was := api.Command{Kind: api.CmdPropose, Client: 1, Req: 2, Rules: rules.Copy(great())}
	first, _ := command.Bytes(c)
	second, _ := command.Bytes(c)
	if !command.Sound(c) || !reflect.DeepEqual(c, was) {
		t.Error("turned by being written", c)
	}
	room := append(slices.Clone(first), 7, 7, 7)
	held := slices.Clone(room)
	got, e := command.Read(room[:len(first)])
	if e != api.OK || !slices.Equal(room, held) {
		t.Error("turned by being read", room)
	}
	clear(room)
	clear(first)
	if !reflect.DeepEqual(got, was) || bytes.Equal(first, second) {
		t.Error("an answer is shared")
	}
}

func TestP20_3WhatIsWrittenIsRead(t *testing.T) {
	for _, c := range chosen(203, 2000) {
		b, e := command.Bytes(c)
		if e != api.OK {
			t.Fatal(c, int(e))
		}
		got, e := command.Read(b)
		if e != api.OK || !command.Same(got, c) || !reflect.DeepEqual(got, c) {
			t.Fatal(c, got, int(e))
		}
	}
}

// again tells whether bytes are those of a command that is read, or are refused as they should be.
func again(b []byte) (read, good bool) {
	c, e := command.Read(b)
	if e != api.OK {
		return false, e == api.ErrForm && reflect.DeepEqual(c, api.Command{})
	}
	written, e := command.Bytes(c)
	return true, e == api.OK && bytes.Equal(written, b) && command.Sound(c)
}

func TestP20_3WhatIsReadIsWritten(t *testing.T) {
	read := 0
	look := func(b []byte) {
		is, good := again(b)
		if !good {
			t.Fatal(b)
		}
		if is {
			read++
		}
	}
	for a := range 256 {
		for b := range 256 {
			for _, c := range []byte{0, 1, 127, 128, 255} {
				look([]byte{byte(a), byte(b), c})
			}
		}
	}
	if read != 5*9*3 { // those of five kinds without fields, of the clients 0 to 8, whose Req is one byte
		t.Error("read of three bytes", read)
	}
	src := rand.New(rand.NewSource(204))
	read = 0
	for _, c := range chosen(205, 400) {
		for range 5 {
			b := byWords(c)
			for range 1 + src.Intn(2) {
				b[src.Intn(len(b))] = byte(src.Intn(256))
			}
			look(b)
		}
	}
	if read < 1000 {
		t.Error("too few are read", read)
	}
}
