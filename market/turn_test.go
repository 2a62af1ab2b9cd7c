package market_test

import (
	"math/rand"
	"slices"
	"testing"

	"jobber/api"
	"jobber/fault"
	"jobber/market"
	"jobber/order"
	"jobber/purse"
	"jobber/rules"
	"jobber/sample"
)

// replaced tells that an order has another price and quantity.
func replaced(o api.Order) api.Event { return of(api.EvReplace, o, api.OK) }

func TestP22_4ReplaceThatStays(t *testing.T) {
	m := rich(t, plain(), 100, 10)
	m.Apply(place(api.Limit, buy(1, 0, 10, 5)))
	m.Apply(place(api.Limit, buy(2, 1, 10, 5)))
	m.Apply(place(api.Limit, sell(3, 2, 12, 5)))
	tells(t, m, replace(0, 1, 10, 3), replaced(buy(1, 0, 10, 3)))
	tells(t, m, replace(0, 1, 10, 3), replaced(buy(1, 0, 10, 3))) // the same again
	tells(t, m, replace(2, 3, 12, 1), replaced(sell(3, 2, 12, 1)))
	rests(t, m, at(1, buy(1, 0, 10, 3)), at(2, buy(2, 1, 10, 5)), at(3, sell(3, 2, 12, 1)))
	if n := m.State().Next; n != 4 {
		t.Error(n)
	}
	has(t, m, 0, purse.Purse{Cash: 100, Stock: 10, HeldCash: 30})
	has(t, m, 2, purse.Purse{Cash: 100, Stock: 10, HeldStock: 1})
}

func TestP22_4ReplaceThatComes(t *testing.T) {
	m := rich(t, plain(), 100, 10)
	m.Apply(place(api.Limit, buy(1, 0, 10, 5)))
	m.Apply(place(api.Limit, buy(2, 1, 10, 5)))
	m.Apply(place(api.Limit, sell(3, 2, 12, 5)))
	tells(t, m, replace(0, 1, 10, 6), replaced(buy(1, 0, 10, 6))) // more: behind all
	rests(t, m, at(2, buy(2, 1, 10, 5)), at(4, buy(1, 0, 10, 6)), at(3, sell(3, 2, 12, 5)))
	tells(t, m, replace(1, 2, 9, 5), replaced(buy(2, 1, 9, 5)))
	tells(t, m, replace(1, 2, 10, 5), replaced(buy(2, 1, 10, 5))) // there and back: behind
	rests(t, m, at(4, buy(1, 0, 10, 6)), at(6, buy(2, 1, 10, 5)), at(3, sell(3, 2, 12, 5)))
	o := buy(1, 0, 12, 7)
	tells(t, m, replace(0, 1, 12, 7), replaced(o), traded(o, 3, 12, 5, 0, 0))
	rests(t, m, at(7, left(o, 2)), at(6, buy(2, 1, 10, 5)))
	has(t, m, 0, purse.Purse{Cash: 40, Stock: 15, HeldCash: 24, Volume: 60})
	s := sell(5, 2, 13, 4)
	tells(t, m, place(api.Limit, s), accept(s))
	s = sell(5, 2, 12, 1)
	tells(t, m, replace(2, 5, 12, 1), replaced(s), traded(s, 1, 12, 1, 0, 0)) // nothing is left of it
	has(t, m, 2, purse.Purse{Cash: 172, Stock: 4, Volume: 72})
	if n := m.State().Next; n != 10 {
		t.Error(n)
	}
}

func TestP22_4ReplaceThatMeetsItsOwn(t *testing.T) {
	for _, self := range []int{api.DropNew, api.DropOld, api.DropBoth} {
		m := rich(t, by(func(r *api.Rules) { r.Self = self }), 100, 10)
		m.Apply(place(api.Limit, buy(1, 0, 9, 5)))
		m.Apply(place(api.Limit, sell(2, 0, 12, 5)))
		o := buy(1, 0, 12, 4)
		want := []api.Event{replaced(o)}
		if self != api.DropNew {
			want = append(want, of(api.EvCancel, sell(2, 0, 12, 5), api.ErrSelf))
		}
		if self != api.DropOld {
			want = append(want, of(api.EvCancel, o, api.ErrSelf))
		}
		tells(t, m, replace(0, 1, 12, 4), want...)
	}
}

func TestP22_4ReplaceRefused(t *testing.T) {
	r := by(func(r *api.Rules) { r.Lot, r.Band, r.Ticks = 5, 500000, []api.Tick{{From: 0, Size: 2}} })
	m := rich(t, r, 200, 20)
	m.Apply(place(api.Limit, sell(500, 1, 20, 5)))
	m.Apply(place(api.Limit, buy(501, 2, 20, 5))) // the last price is 20
	m.Apply(place(api.Limit, buy(1, 0, 14, 10)))
	m.Apply(place(api.Limit, sell(2, 0, 26, 10)))
	for _, c := range []struct {
		account    int
		id         uint64
		price, qty int64
		e          api.Errno
	}{
		{-1, 1, 15, 7, api.ErrArg},
		{8, 1, 15, 7, api.ErrArg},
		{0, 3, 15, 7, api.ErrNone},
		{1, 1, 15, 7, api.ErrNone},
		{2, 501, 15, 7, api.ErrNone}, // it is filled
		{0, 1, 15, 7, api.ErrTick},
		{0, 1, 0, 7, api.ErrTick},
		{0, 1, 8, 7, api.ErrLot},
		{0, 1, 8, 0, api.ErrLot},
		{0, 1, 8, 100, api.ErrBand},
		{0, 2, 32, 100, api.ErrBand},
		{0, 1, 14, 15, api.ErrFunds},
		{0, 1, 22, 10, api.ErrFunds},
		{0, 2, 26, 25, api.ErrFunds},
		{0, 2, 22, 25, api.ErrFunds},
	} {
		refuses(t, m, replace(c.account, c.id, c.price, c.qty), c.e)
	}
	tells(t, m, replace(0, 1, 20, 10), replaced(buy(1, 0, 20, 10))) // what was held is free for it
	tells(t, m, replace(0, 2, 26, 20), replaced(sell(2, 0, 26, 20)))
	tells(t, m, halt(), phase(api.Calling))
	refuses(t, m, replace(0, 1, 22, 10), api.ErrFunds)
	tells(t, m, replace(0, 1, 30, 5), replaced(buy(1, 0, 30, 5))) // in a call it rests
	rests(t, m, at(7, buy(1, 0, 30, 5)), at(6, sell(2, 0, 26, 20)))
}

func TestP22_5CallByHand(t *testing.T) {
	m := rich(t, plain(), 1000, 100)
	m.Apply(halt())
	b1, b2, s3, s4 := buy(1, 0, 12, 5), buy(2, 1, 10, 5), sell(3, 2, 9, 4), sell(4, 3, 11, 4)
	for _, o := range []api.Order{b1, b2, s3, s4} {
		tells(t, m, place(api.Limit, o), accept(o)) // nobody trades
	}
	rests(t, m, at(1, b1), at(2, b2), at(3, s3), at(4, s4))
	tells(t, m, uncross(),
		traded(b1, 3, 11, 4, 0, 0), traded(b1, 4, 11, 1, 0, 0), phase(api.Trading))
	rests(t, m, at(2, b2), at(4, left(s4, 3)))
	has(t, m, 0, purse.Purse{Cash: 945, Stock: 105, Volume: 55})
	has(t, m, 1, purse.Purse{Cash: 1000, Stock: 100, HeldCash: 50})
	has(t, m, 2, purse.Purse{Cash: 1044, Stock: 96, Volume: 44})
	has(t, m, 3, purse.Purse{Cash: 1011, Stock: 99, HeldStock: 3, Volume: 11})
	if s := m.State(); s.Last != 11 || s.Phase != api.Trading || s.Next != 5 {
		t.Error(s)
	}
}

func TestP22_5FeesOfACall(t *testing.T) {
	r := by(func(r *api.Rules) {
		r.Fees, r.Round = []api.Tier{{Maker: 20000, Taker: 90000}, {From: 440, Maker: 30000, Taker: 90000}}, api.Up
	})
	m := rich(t, r, 1000, 100)
	m.Apply(halt())
	b, s3, s4 := buy(1, 0, 12, 50), sell(3, 2, 9, 40), sell(4, 3, 11, 10)
	for _, o := range []api.Order{b, s3, s4} {
		m.Apply(place(api.Limit, o))
	}
	tells(t, m, uncross(),
		traded(b, 3, 11, 40, 9, 9), // 440 at 2 in a hundred, of both
		traded(b, 4, 11, 10, 4, 3), // 110: the buyer has traded for 440, and is at 3 in a hundred
		phase(api.Trading))
	has(t, m, 0, purse.Purse{Cash: 450, Stock: 150, Owed: 13, Volume: 550})
}

func TestP22_5CallOfTheLastPrice(t *testing.T) {
	for _, c := range []struct{ last, price int64 }{{0, 10}, {10, 10}, {14, 10}, {15, 10}, {16, 20}, {25, 20}} {
		s := rich(t, plain(), 1000, 100).State()
		s.Last, s.Phase = c.last, api.Calling
		m := restored(t, s)
		m.Apply(place(api.Limit, buy(1, 0, 20, 5)))
		m.Apply(place(api.Limit, sell(2, 1, 10, 5)))
		tells(t, m, uncross(), traded(buy(1, 0, 0, 0), 2, c.price, 5, 0, 0), phase(api.Trading))
		if last := m.State().Last; last != c.price {
			t.Error(c, last)
		}
	}
}

func TestP22_5CallInWhichNobodyTrades(t *testing.T) {
	s := rich(t, plain(), 1000, 100).State()
	s.Last, s.Phase = 7, api.Calling
	m := restored(t, s)
	m.Apply(place(api.Limit, buy(1, 0, 10, 5)))
	m.Apply(place(api.Limit, sell(2, 1, 11, 5)))
	tells(t, m, uncross(), phase(api.Trading))
	if last := m.State().Last; last != 7 {
		t.Error(last)
	}
	s = m.State() // with lots of which nobody has one, they would trade, but do not
	s.Phase, s.Rules.Lot = api.Calling, 10
	s.Orders[0].Price, s.Till.Purses[0].HeldCash = 12, 60
	m = restored(t, s)
	tells(t, m, uncross(), phase(api.Trading))
	if last := m.State().Last; last != 7 {
		t.Error(last)
	}
}

func TestP22_5CallByShareInLots(t *testing.T) {
	m := rich(t, by(func(r *api.Rules) { r.Priority, r.Lot, r.Self = api.ByShare, 3, api.DropBoth }), 1000, 100)
	m.Apply(halt())
	for i, n := range []int64{6, 6, 3} {
		m.Apply(place(api.Limit, sell(uint64(i+1), i, 10, n)))
	}
	o := buy(9, 1, 11, 9)
	m.Apply(place(api.Limit, o))
	// The buyer's own order is met like all others.
	tells(t, m, uncross(), traded(o, 1, 10, 6, 0, 0), traded(o, 2, 10, 3, 0, 0), phase(api.Trading))
	rests(t, m, at(2, sell(2, 1, 10, 3)), at(3, sell(3, 2, 10, 3)))
	has(t, m, 1, purse.Purse{Cash: 940, Stock: 106, HeldStock: 3, Volume: 120})
}

// someWorld tells a world that chance chooses: with nothing but what accounts have, or with orders that may cross, and have no whole lots.
func someWorld(src *rand.Rand, r api.Rules, orders bool) *world {
	w := fresh(r)
	for i := range 4 {
		w.cash[i], w.stock[i] = src.Int63n(800), src.Int63n(80)
	}
	if !orders {
		return w
	}
	w.phase, w.last, w.next = 1+src.Intn(2), src.Int63n(18), 50
	for i := range src.Intn(14) {
		o := api.Order{
			ID: uint64(i), Account: src.Intn(4), Side: 1 + src.Intn(2), Price: 8 + src.Int63n(8),
			Qty: 1 + src.Int63n(12), Seq: uint64(src.Intn(50)),
		}
		if !w.lacks(o) {
			w.orders = append(w.orders, o)
		}
	}
	return w
}

func TestP22ByItsWords(t *testing.T) {
	src := rand.New(rand.NewSource(22))
	codes, events := map[api.Errno]int{}, map[int]int{}
	for round := range 1500 {
		w := someWorld(src, sample.SomeRules(src.Intn), round%2 == 1)
		m := restored(t, w.state())
		for range 60 {
			c := sample.SomeCommand(src.Intn, w.rules.Lot)
			was := w.state()
			want := w.apply(c)
			if got := m.Apply(c); !slices.Equal(got, want) {
				t.Fatalf("%+v\n%+v\n%+v\nnot\n%+v", was, c, got, want)
			}
			if s := m.State(); !market.Same(s, w.state()) || !market.Sound(s) {
				t.Fatalf("%+v\n%+v\n%+v\nnot\n%+v", was, c, s, w.state())
			}
			for _, e := range want {
				codes[e.Code]++
				events[e.Kind]++
			}
		}
	}
	for _, e := range []api.Errno{api.ErrArg, api.ErrTick, api.ErrLot, api.ErrBand, api.ErrNone, api.ErrThere, api.ErrFunds, api.ErrState, api.ErrCross, api.ErrFill, api.ErrSelf, api.ErrLeft} {
		if codes[e] < 50 {
			t.Error("hardly ever", int(e), codes[e])
		}
	}
	for kind := api.EvReject; kind <= api.EvPhase; kind++ {
		if events[kind] < 500 {
			t.Error("hardly ever", kind, events[kind])
		}
	}
}

// wouldTrade tells whether the best buyer and the best seller would trade.
func wouldTrade(l []api.Order) bool {
	buyers, sellers := levelOf(l, api.Buy), levelOf(l, api.Sell)
	return len(buyers) > 0 && len(sellers) > 0 && buyers[0].Price >= sellers[0].Price
}

func TestP22_6WhatFollows(t *testing.T) {
	src := rand.New(rand.NewSource(226))
	full := 0
	for round := range 150 {
		r := sample.SomeRules(src.Intn)
		m := made(t, r)
		if round%2 == 0 { // a long call, in which the book gets full
			m.Apply(halt())
		}
		for i := range api.MaxAccounts {
			m.Apply(deposit(i, api.Cash, 1+src.Int63n(1<<20)))
			m.Apply(deposit(i, api.Stock, 1+src.Int63n(1<<12)))
		}
		for range 300 {
			c := sample.SomeCommand(src.Intn, r.Lot)
			c.ID, c.Account = uint64(src.Intn(90)), src.Intn(api.MaxAccounts)
			if c.Kind == api.CmdPlace && round%2 == 0 {
				c.ID, c.Type = uint64(src.Intn(300)), api.Limit
			}
			if c.Kind == api.CmdUncross && src.Intn(10) > 0 {
				c.Kind, c.Type = api.CmdPlace, api.Limit
			}
			was := m.State()
			l := m.Apply(c)
			s := m.State()
			if !market.Sound(s) || !order.Book(s.Orders) || !purse.Good(s.Till) || !rules.Same(s.Rules, r) || s.Next < was.Next {
				t.Fatalf("%+v\n%+v\nnot sound", c, s)
			}
			cash, stock := purse.Totals(s.Till)
			wasCash, wasStock := purse.Totals(was.Till)
			if c.Kind != api.CmdDeposit && c.Kind != api.CmdWithdraw && (cash != wasCash || stock != wasStock) {
				t.Fatalf("%+v: a total turned", c)
			}
			if s.Phase == api.Trading && wouldTrade(s.Orders) {
				t.Fatalf("%+v\n%+v\nthe best ones would trade", c, s.Orders)
			}
			if l[0].Kind == api.EvReject && (!market.Same(s, was) || len(l) != 1) {
				t.Fatalf("%+v: turned, though refused", c)
			}
			if l[0].Code == api.ErrFull {
				full++
			}
			if len(l) > api.MaxEvents {
				t.Fatal("too many events", len(l))
			}
		}
	}
	if full < 20 {
		t.Error("hardly ever full", full)
	}
}

func TestP22_6BothLayoutsTellTheSame(t *testing.T) {
	src := rand.New(rand.NewSource(227))
	for round := range 200 {
		r := sample.SomeRules(src.Intn)
		w := someWorld(src, r, round%2 == 0)
		r.Layout = api.Ladder
		w.rules = r
		a := restored(t, w.state())
		w.rules.Layout = api.Grove
		b := restored(t, w.state())
		for range 60 {
			c := sample.SomeCommand(src.Intn, r.Lot)
			if !slices.Equal(a.Apply(c), b.Apply(c)) {
				t.Fatal(c)
			}
		}
		s := b.State()
		s.Rules.Layout = api.Ladder
		if !market.Same(a.State(), s) {
			t.Fatal("they went apart")
		}
	}
}

func TestP22_6NextBeyondItsBound(t *testing.T) {
	for _, next := range []uint64{1<<63 - 1, 1 << 63, 1<<64 - 2, 1<<64 - 1} { // nothing is promised but that it ends
		s := rich(t, plain(), 1000, 100).State()
		s.Next = next
		m := restored(t, s)
		for i := range uint64(5) {
			m.Apply(place(api.Limit, buy(i, 0, 10, 1)))
			m.Apply(place(api.Limit, sell(10+i, 1, 9+int64(i), 1)))
			m.Clone().State()
		}
		m.Apply(halt())
		m.Apply(uncross())
	}
}

func TestP22FitsAreTheRules(t *testing.T) {
	src := rand.New(rand.NewSource(228))
	for range 20000 { // the words by which the tests tell what fits are the rules'
		r, c := sample.SomeRules(src.Intn), sample.SomeCommand(src.Intn, 2)
		last := src.Int63n(20)
		want := fault.Code(rules.Fits(r, last, c.Side, c.Type, c.Price, c.Qty))
		if e := fitsByWords(r, last, c.Side, c.Type, c.Price, c.Qty); e != want {
			t.Fatal(r, c, int(e), int(want))
		}
	}
}
