package vault_test

import (
	"encoding/binary"
	"math"
	"math/rand"
	"reflect"
	"slices"
	"strings"
	"testing"

	"jobber/api"
	"jobber/codec"
	"jobber/market"
	"jobber/order"
	"jobber/purse"
	"jobber/rules"
	"jobber/sample"
	"jobber/vault"
)

// byWords tells a state's bytes by the chapter's words, but for the orders' text, which is handed in.
func byWords(s market.State, text []byte) []byte {
	b := rules.Bytes(s.Rules)
	number := func(l ...int64) {
		for _, n := range l {
			b = binary.AppendVarint(b, n)
		}
	}
	number(int64(s.Phase), s.Last)
	b = binary.AppendUvarint(b, s.Next)
	for _, p := range s.Till.Purses {
		number(p.Cash, p.Stock, p.HeldCash, p.HeldStock, p.Owed, p.Volume)
	}
	number(s.Till.House)
	b = binary.AppendUvarint(b, uint64(len(text)))
	return append(b, text...)
}

// written tells a state's bytes by the chapter's words.
func written(s market.State) []byte {
	return byWords(s, order.Bytes(s.Orders))
}

// wild tells a state in which each number is another one, and which is not sound.
func wild() market.State {
	s := market.State{
		Rules: api.Rules{Version: -1, Lot: math.MaxInt64, Layout: math.MinInt}, Phase: math.MinInt,
		Last: math.MinInt64, Next: math.MaxUint64,
	}
	for i := range s.Till.Purses {
		n := int64(i) * 1000
		s.Till.Purses[i] = purse.Purse{Cash: n + 1, Stock: -n - 2, HeldCash: n + 3, HeldStock: n + 4, Owed: n + 5, Volume: -n - 6}
	}
	s.Till.House = math.MaxInt64
	for i := range 100 {
		s.Orders = append(s.Orders, api.Order{ID: math.MaxUint64, Account: -i, Side: i, Price: math.MinInt64, Qty: -1, Seq: uint64(i)})
	}
	return s
}

// chosen tells so many sound states that chance chooses.
func chosen(seed int64, n int) []market.State {
	src := rand.New(rand.NewSource(seed))
	var l []market.State
	for range n {
		l = append(l, sample.SomeState(src.Intn, sample.SomeRules(src.Intn)))
	}
	return l
}

// restored tells a market of a state that is sound.
func restored(t *testing.T, s market.State) *market.Market {
	t.Helper()
	m, e := market.Restore(s)
	if e != api.OK {
		t.Fatal("no market", s)
	}
	return m
}

func TestP24TheChaptersExample(t *testing.T) {
	m, _ := market.New(sample.Rules())
	want := rules.Bytes(sample.Rules())
	want = append(want, 2, 0, 1)              // the phase 1, as a whole number, is twice that
	want = append(want, make([]byte, 8*6)...) // the purses
	want = append(want, 0, 1, 0)              // the house; a text of one byte: no orders
	b := vault.Bytes(m)
	if !slices.Equal(b, want) {
		t.Errorf("%x\nnot\n%x", b, want)
	}
	n, e := vault.Open(b)
	if e != api.OK || n == nil || !market.Same(n.State(), m.State()) {
		t.Error(int(e))
	}
}

func TestP24_1PutByHand(t *testing.T) {
	s := market.State{Rules: sample.Rules(), Phase: 2, Last: 3, Next: 300, Orders: []api.Order{{ID: 7, Account: 1, Side: 2, Price: -1, Qty: 64, Seq: 200}}}
	s.Till.Purses[0] = purse.Purse{Cash: 1, Stock: 2, HeldCash: 3, HeldStock: 4, Owed: 5, Volume: -6}
	s.Till.Purses[7] = purse.Purse{Stock: 100}
	s.Till.House = 63
	want := slices.Concat(
		rules.Bytes(sample.Rules()), []byte{4, 6, 0xac, 2, 2, 4, 6, 8, 10, 11}, make([]byte, 6*6),
		[]byte{0, 0xc8, 1, 0, 0, 0, 0, 126, 9, 1, 7, 2, 4, 1, 0x80, 1, 0xc8, 1},
	)
	var w codec.Writer
	if vault.Put(&w, s); !slices.Equal(w.Bytes(), want) {
		t.Errorf("%x\nnot\n%x", w.Bytes(), want)
	}
}

func TestP24_1PutByItsWords(t *testing.T) {
	l := slices.Concat(chosen(241, 300), sample.States(), []market.State{{}, wild()})
	for _, s := range l {
		var w codec.Writer
		w.Nat(9)
		vault.Put(&w, s)
		vault.Put(&w, s) // behind what is there
		if b := written(s); !slices.Equal(w.Bytes(), slices.Concat([]byte{9}, b, b)) {
			t.Errorf("%+v\n%x\nnot\n%x", s, w.Bytes(), b)
		}
		vault.Put(nil, s)
	}
	long := market.State{Orders: make([]api.Order, 70000)} // more than may be read
	var w codec.Writer
	if vault.Put(&w, long); !slices.Equal(w.Bytes(), written(long)) {
		t.Error("not all orders")
	}
}

func TestP24_1WhatIsHandedInStays(t *testing.T) {
	s, want := wild(), wild()
	s.Orders = append(s.Orders, make([]api.Order, 9)...)[:len(want.Orders)]
	var w codec.Writer
	vault.Put(&w, s)
	if !reflect.DeepEqual(s, want) || slices.ContainsFunc(s.Orders[:cap(s.Orders)][100:], func(o api.Order) bool { return o != api.Order{} }) {
		t.Error("what was handed in is changed")
	}
	b := written(sample.States()[2])
	was := slices.Clone(b)
	d := codec.Open(b)
	m, _ := vault.Open(b)
	n, ok := vault.Read(d)
	if !slices.Equal(b, was) || !ok {
		t.Error("what was handed in is changed")
	}
	for i := range b {
		b[i] = 1
	}
	if !market.Same(m.State(), n.State()) || !market.Same(m.State(), sample.States()[2]) {
		t.Error("the market follows the bytes")
	}
	m.Apply(sample.Deposit(0, api.Cash, 5))
	if !market.Same(n.State(), sample.States()[2]) {
		t.Error("both markets are one")
	}
	b = vault.Bytes(n)
	clear(b)
	if !slices.Equal(vault.Bytes(n), was) {
		t.Error("the bytes are kept")
	}
}

func TestP24_1Read(t *testing.T) {
	l := append(chosen(242, 300), sample.States()...)
	var all []byte
	for _, s := range l {
		all = append(all, written(s)...)
	}
	d := codec.Open(append([]byte{9}, all...))
	d.Nat(9)
	for _, s := range l {
		m, ok := vault.Read(d)
		if !ok || m == nil || d.Bad() || !market.Same(m.State(), s) {
			t.Fatal(s, ok)
		}
	}
	if d.End() != api.OK {
		t.Error(d.Left(), "left")
	}
}

// none holds that there is no market in bytes, and that a reader of them is bad then.
func none(t *testing.T, b []byte, why ...any) {
	t.Helper()
	d := codec.Open(b)
	if m, ok := vault.Read(d); m != nil || ok || !d.Bad() || d.Left() != 0 || d.End() != api.ErrForm {
		t.Error(why, "it was read")
	}
	if m, e := vault.Open(b); m != nil || e != api.ErrForm {
		t.Error(why, "it was opened", int(e))
	}
}

// unread holds that a state with that text of orders is not read, whatever stands behind it.
func unread(t *testing.T, s market.State, text []byte, why ...any) {
	t.Helper()
	b := byWords(s, text)
	none(t, b, why...)
	none(t, append(b, written(sample.States()[1])...), why, "with more behind it")
}

func TestP24_1ReadWhereNoneIs(t *testing.T) {
	if m, ok := vault.Read(nil); m != nil || ok {
		t.Error("nil")
	}
	if m, ok := vault.Read(new(codec.Reader)); m != nil || ok {
		t.Error("a reader of nothing")
	}
	d := codec.Open(written(sample.States()[1]))
	d.Fail()
	if m, ok := vault.Read(d); m != nil || ok || !d.Bad() {
		t.Error("a bad reader")
	}
	for i, s := range append(chosen(243, 10), sample.States()...) {
		b := written(s)
		for n := range b {
			none(t, b[:n], "torn", i, n)
		}
	}
	none(t, vault.Bytes(nil), "of none")
	unread(t, wild(), order.Bytes(nil), "wild")
	unread(t, market.State{}, order.Bytes(nil), "the zero State")
}

func TestP24_1ReadOfNoText(t *testing.T) {
	for i, s := range append(chosen(244, 20), sample.States()...) {
		text := order.Bytes(s.Orders)
		unread(t, s, nil, i, "empty")
		unread(t, s, append(slices.Clone(text), 0), i, "with more behind the orders")
		unread(t, s, append(slices.Clone(text), text...), i, "twice")
		unread(t, s, text[:len(text)-1], i, "torn")
		unread(t, s, append(text, make([]byte, api.MaxText+1-len(text))...), i, "long")
	}
	s := sample.States()[1]
	for i, text := range []string{"\x80\x00", "\x41", "\x01", strings.Repeat("\xff", 20), strings.Repeat("\x00", api.MaxText)} {
		unread(t, s, []byte(text), i)
	}
}

func TestP24_1ReadOfTheLongestText(t *testing.T) {
	s := market.State{Rules: sample.Rules(), Phase: api.Calling, Next: math.MaxUint64}
	for i := range uint64(api.MaxOrders) {
		s.Orders = append(s.Orders, sample.At(1<<63+i, sample.Sell(math.MaxUint64-i, 7, api.MaxPrice, api.MaxQty)))
	}
	s.Till.Purses[7] = purse.Purse{Stock: api.MaxMoney, HeldStock: api.MaxOrders * api.MaxQty}
	if m, e := vault.Open(written(s)); e != api.OK || !market.Same(m.State(), s) {
		t.Error(int(e))
	}
	s.Orders = append(s.Orders, sample.At(1<<63+64, sample.Sell(1, 7, api.MaxPrice, api.MaxQty)))
	s.Till.Purses[7].HeldStock += api.MaxQty
	unread(t, s, order.Bytes(s.Orders), "65 orders")
}

func TestP24_1ReadOfWhatIsNotSound(t *testing.T) {
	spoils := []func(s *market.State){
		func(s *market.State) { s.Phase = 0 },
		func(s *market.State) { s.Phase = 3 },
		func(s *market.State) { s.Phase = math.MinInt },
		func(s *market.State) { s.Last = -1 },
		func(s *market.State) { s.Last = api.MaxPrice + 1 },
		func(s *market.State) { s.Next = s.Orders[0].Seq },
		func(s *market.State) { s.Till.House = -1 },
		func(s *market.State) { s.Till.House = api.MaxMoney },
		func(s *market.State) { s.Till.Purses[0].Cash = -1 },
		func(s *market.State) { s.Till.Purses[1].Stock = math.MinInt64 },
		func(s *market.State) { s.Till.Purses[2].HeldCash++ },
		func(s *market.State) { s.Till.Purses[3].HeldStock-- },
		func(s *market.State) { s.Till.Purses[4].HeldStock = 1 },
		func(s *market.State) { s.Till.Purses[5].Owed = -1 },
		func(s *market.State) { s.Till.Purses[7].Volume = api.MaxMoney + 1 },
		func(s *market.State) { s.Orders = s.Orders[1:] },
		func(s *market.State) { s.Orders[0], s.Orders[1] = s.Orders[1], s.Orders[0] },
		func(s *market.State) { s.Orders[0].ID = s.Orders[1].ID },
		func(s *market.State) { s.Orders[0].Account = 8 },
		func(s *market.State) { s.Orders[0].Qty++ },
		func(s *market.State) { s.Orders[0].Price++ },
		func(s *market.State) { s.Orders[0].Side = 0 },
	}
	for _, spoil := range sample.Spoils() {
		spoils = append(spoils, func(s *market.State) { spoil(&s.Rules) })
	}
	for i, spoil := range spoils {
		for _, j := range []int{1, 2} {
			s := sample.States()[j]
			spoil(&s)
			unread(t, s, order.Bytes(s.Orders), i, j)
		}
	}
}

func TestP24_1ReadOfOtherForms(t *testing.T) {
	b := written(sample.States()[0])
	front := len(rules.Bytes(sample.Rules()))
	for i := front; i < len(b); i++ { // a number that is not in its one form
		longer := slices.Concat(b[:i], []byte{b[i] | 0x80, 0}, b[i+1:])
		none(t, longer, i)
	}
	s := sample.States()[0]
	for _, n := range []uint64{0, 1 << 63, math.MaxUint64} {
		s.Next = n
		if m, e := vault.Open(written(s)); e != api.OK || m.State().Next != n {
			t.Error(n, int(e))
		}
	}
	big := slices.Concat(b[:front+2], slices.Repeat([]byte{0xff}, 9), []byte{2}, b[front+3:]) // Next is 2^64 or more
	none(t, big, "more than 2^64")
}

func TestP24_2Bytes(t *testing.T) {
	for _, m := range []*market.Market{nil, {}, new(market.Market)} {
		if b := vault.Bytes(m); len(b) != 0 {
			t.Error(b)
		}
	}
	for _, s := range append(chosen(245, 200), sample.States()...) {
		m := restored(t, s)
		if b := vault.Bytes(m); !slices.Equal(b, written(s)) || !market.Same(m.State(), s) {
			t.Errorf("%+v\n%x", s, b)
		}
	}
}

func TestP24_2Open(t *testing.T) {
	none(t, nil, "nil")
	none(t, []byte{}, "nothing")
	for i, s := range append(chosen(246, 50), sample.States()...) {
		b := written(s)
		if m, e := vault.Open(b); e != api.OK || m == nil || !market.Same(m.State(), s) {
			t.Error(i, int(e))
		}
		for _, more := range [][]byte{{0}, {1, 2}, b} { // just these bytes
			if m, e := vault.Open(append(slices.Clone(b), more...)); m != nil || e != api.ErrForm {
				t.Error(i, more, int(e))
			}
		}
		if m, e := vault.Open(append(b, 7)[:len(b)]); e != api.OK || m == nil {
			t.Error(i, "what lies behind counts")
		}
	}
}

func TestP24_3EveryByteCounts(t *testing.T) {
	src := rand.New(rand.NewSource(247))
	opened := 0
	for _, s := range append(chosen(248, 40), sample.States()...) {
		b := written(s)
		for i := range b {
			turned := slices.Clone(b)
			turned[i] ^= byte(1 + src.Intn(255))
			m, e := vault.Open(turned)
			if e != api.OK {
				if m != nil || e != api.ErrForm {
					t.Fatal(int(e))
				}
				continue
			}
			opened++
			if !slices.Equal(vault.Bytes(m), turned) || market.Same(m.State(), s) || !market.Sound(m.State()) {
				t.Fatalf("%x\nis not\n%x", vault.Bytes(m), turned)
			}
		}
	}
	if opened < 100 {
		t.Error("hardly ever opened", opened)
	}
}

func TestP24_3GoesOnAlike(t *testing.T) {
	src := rand.New(rand.NewSource(249))
	for _, s := range chosen(250, 200) {
		m := restored(t, s)
		for range 6 {
			b := vault.Bytes(m)
			n, e := vault.Open(b)
			if e != api.OK || !market.Same(n.State(), m.State()) || !slices.Equal(vault.Bytes(n), b) {
				t.Fatal(int(e), s)
			}
			for range 10 {
				c := sample.SomeCommand(src.Intn, s.Rules.Lot)
				if x, y := m.Apply(c), n.Apply(c); !slices.Equal(x, y) {
					t.Fatalf("%+v\n%+v\nnot\n%+v", c, x, y)
				}
			}
			if !slices.Equal(vault.Bytes(n), vault.Bytes(m)) {
				t.Fatal("they went apart")
			}
		}
	}
}
