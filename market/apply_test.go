package market_test

import (
	"math"
	"testing"

	"jobber/api"
	"jobber/market"
	"jobber/purse"
)

func TestP22_2DepositAndWithdraw(t *testing.T) {
	m := made(t, plain())
	tells(t, m, deposit(0, api.Cash, 100), moved(0, api.Cash, 100))
	tells(t, m, deposit(7, api.Stock, 1), moved(7, api.Stock, 1))
	tells(t, m, deposit(0, api.Cash, api.MaxMoney-100), moved(0, api.Cash, api.MaxMoney-100))
	refuses(t, m, deposit(1, api.Cash, 1), api.ErrBig)
	refuses(t, m, deposit(1, api.Cash, api.MaxMoney), api.ErrBig)
	tells(t, m, withdraw(0, api.Cash, 70), moved(0, api.Cash, -70))
	has(t, m, 0, purse.Purse{Cash: api.MaxMoney - 70})
	has(t, m, 7, purse.Purse{Stock: 1})
	tells(t, m, deposit(1, api.Cash, 70), moved(1, api.Cash, 70))
	tells(t, m, deposit(1, api.Stock, api.MaxMoney-1), moved(1, api.Stock, api.MaxMoney-1))
	refuses(t, m, deposit(7, api.Stock, 1), api.ErrBig)
	for _, do := range []func(account, asset int, n int64) api.Command{deposit, withdraw} {
		for _, n := range []int64{0, -1, math.MinInt64, api.MaxMoney + 1, math.MaxInt64} {
			refuses(t, m, do(1, api.Cash, n), api.ErrArg)
			refuses(t, m, do(1, api.Stock, n), api.ErrArg)
		}
		for _, asset := range []int{0, 3, -1, math.MinInt, math.MaxInt} {
			refuses(t, m, do(1, asset, 1), api.ErrArg)
		}
		odd := do(8, api.Cash, 5)
		odd.ID = 44
		refuses(t, m, odd, api.ErrArg) // it tells the ID that was told
	}
	refuses(t, m, withdraw(1, api.Cash, 71), api.ErrFunds)
	refuses(t, m, withdraw(2, api.Cash, 1), api.ErrFunds)
	refuses(t, m, withdraw(0, api.Stock, 1), api.ErrFunds)
	tells(t, m, withdraw(1, api.Cash, 70), moved(1, api.Cash, -70))
}

func TestP22_2WithdrawOfWhatIsHeldOrOwed(t *testing.T) {
	m := rich(t, by(func(r *api.Rules) { r.Fees = []api.Tier{{Maker: 100000, Taker: 50000}} }), 100, 10)
	tells(t, m, place(api.Limit, sell(1, 1, 10, 4)), accept(sell(1, 1, 10, 4)))
	tells(t, m, place(api.Limit, buy(2, 0, 10, 6)), accept(buy(2, 0, 10, 6)), traded(buy(2, 0, 0, 0), 1, 10, 4, 2, 4))
	has(t, m, 0, purse.Purse{Cash: 60, Stock: 14, HeldCash: 20, Owed: 2, Volume: 40})
	has(t, m, 1, purse.Purse{Cash: 140, Stock: 6, Owed: 4, Volume: 40})
	refuses(t, m, withdraw(0, api.Cash, 39), api.ErrFunds)
	tells(t, m, withdraw(0, api.Cash, 38), moved(0, api.Cash, -38))
	tells(t, m, place(api.Limit, sell(3, 1, 12, 2)), accept(sell(3, 1, 12, 2)))
	refuses(t, m, withdraw(1, api.Stock, 5), api.ErrFunds)
	tells(t, m, withdraw(1, api.Stock, 4), moved(1, api.Stock, -4))
}

func TestP22_2Settle(t *testing.T) {
	m := rich(t, by(func(r *api.Rules) { r.Fees = []api.Tier{{Maker: 100000, Taker: 50000}} }), 100, 10)
	m.Apply(place(api.Limit, sell(1, 1, 10, 4)))
	m.Apply(place(api.Limit, buy(2, 0, 10, 10)))
	refuses(t, m, settle(2), api.ErrNone)
	paid := func(account int, n int64) api.Event {
		return api.Event{Kind: api.EvMove, Account: account, Side: api.Cash, Qty: -n, Fee: n}
	}
	refuses(t, m, settle(0), api.ErrFunds) // all that it has is held
	refuses(t, m, settle(-1), api.ErrArg)
	refuses(t, m, settle(8), api.ErrArg)
	tells(t, m, settle(1), paid(1, 4))
	tells(t, m, deposit(0, api.Cash, 1), moved(0, api.Cash, 1))
	tells(t, m, settle(0), paid(0, 1)) // as much as is free
	refuses(t, m, settle(0), api.ErrFunds)
	tells(t, m, deposit(0, api.Cash, 5), moved(0, api.Cash, 5))
	tells(t, m, settle(0), paid(0, 1))
	refuses(t, m, settle(0), api.ErrNone)
	if s := m.State(); s.Till.House != 6 {
		t.Error(s.Till.House)
	}
	has(t, m, 0, purse.Purse{Cash: 64, Stock: 14, HeldCash: 60, Volume: 40})
}

func TestP22_2Cancel(t *testing.T) {
	m := rich(t, plain(), 100, 10)
	m.Apply(place(api.Limit, buy(1, 0, 9, 5)))
	m.Apply(place(api.Limit, sell(2, 0, 10, 4)))
	refuses(t, m, cancel(0, 3), api.ErrNone)
	refuses(t, m, cancel(1, 1), api.ErrNone)
	refuses(t, m, cancel(8, 1), api.ErrArg)
	m.Apply(place(api.Limit, buy(3, 1, 10, 1)))
	tells(t, m, cancel(0, 2), of(api.EvCancel, sell(2, 0, 10, 3), api.OK)) // what is left of it
	refuses(t, m, cancel(0, 2), api.ErrNone)
	has(t, m, 0, purse.Purse{Cash: 110, Stock: 9, HeldCash: 45, Volume: 10})
	m.Apply(halt())
	tells(t, m, cancel(0, 1), of(api.EvCancel, buy(1, 0, 9, 5), api.OK)) // in a call, too
	has(t, m, 0, purse.Purse{Cash: 110, Stock: 9, Volume: 10})
	rests(t, m)
}

func TestP22_2Halt(t *testing.T) {
	m := made(t, plain())
	tells(t, m, halt(), phase(api.Calling))
	if m.State().Phase != api.Calling {
		t.Error("no call")
	}
	refuses(t, m, halt(), api.ErrState)
	tells(t, m, uncross(), phase(api.Trading))
	if m.State().Phase != api.Trading {
		t.Error("a call")
	}
	refuses(t, m, uncross(), api.ErrState)
}

func TestP22_3PlaceRestsAndGetsSeqs(t *testing.T) {
	m := rich(t, plain(), 1000, 100)
	for i, o := range []api.Order{buy(9, 0, 10, 5), buy(8, 1, 11, 5), buy(7, 2, 10, 5), sell(6, 3, 12, 5), sell(5, 3, 12, 4)} {
		tells(t, m, place(api.Limit, o), accept(o))
		if n := m.State().Next; n != uint64(i)+2 {
			t.Error(i, n)
		}
	}
	rests(t, m, at(2, buy(8, 1, 11, 5)), at(1, buy(9, 0, 10, 5)), at(3, buy(7, 2, 10, 5)), at(4, sell(6, 3, 12, 5)), at(5, sell(5, 3, 12, 4)))
	has(t, m, 0, purse.Purse{Cash: 1000, Stock: 100, HeldCash: 50})
	has(t, m, 3, purse.Purse{Cash: 1000, Stock: 100, HeldStock: 9})
}

// asks tells a market with sellers of 5 at 10 (1), 5 at 11 (2), and 5 at 12 (3), of the accounts 1 to 3.
func asks(t *testing.T, r api.Rules) *market.Market {
	t.Helper()
	m := rich(t, r, 1000, 100)
	for i := range uint64(3) {
		tells(t, m, place(api.Limit, sell(i+1, int(i)+1, 10+int64(i), 5)), accept(sell(i+1, int(i)+1, 10+int64(i), 5)))
	}
	return m
}

// bids tells a market with buyers of 5 at 12 (1), 5 at 11 (2), and 5 at 10 (3), of the accounts 1 to 3.
func bids(t *testing.T, r api.Rules) *market.Market {
	t.Helper()
	m := rich(t, r, 1000, 100)
	for i := range uint64(3) {
		tells(t, m, place(api.Limit, buy(i+1, int(i)+1, 12-int64(i), 5)), accept(buy(i+1, int(i)+1, 12-int64(i), 5)))
	}
	return m
}

func TestP22_3Kinds(t *testing.T) {
	gone := func(o api.Order) api.Event { return of(api.EvCancel, o, api.ErrLeft) }
	trade := func(o api.Order, other uint64, price, qty int64) api.Event { return traded(o, other, price, qty, 0, 0) }
	b, s := buy(9, 0, 11, 12), sell(9, 0, 11, 12)
	for i, c := range []struct {
		m    *market.Market
		kind int
		o    api.Order
		want []api.Event // behind Accept
		rest int64       // what rests of it
		none api.Errno   // why it is refused
	}{
		{asks(t, plain()), api.Limit, b, []api.Event{trade(b, 1, 10, 5), trade(b, 2, 11, 5)}, 2, 0},
		{asks(t, plain()), api.Limit, left(b, 10), []api.Event{trade(b, 1, 10, 5), trade(b, 2, 11, 5)}, 0, 0},
		{asks(t, plain()), api.Limit, left(b, 7), []api.Event{trade(b, 1, 10, 5), trade(b, 2, 11, 2)}, 0, 0},
		{asks(t, plain()), api.Limit, buy(9, 0, 9, 3), nil, 3, 0},
		{asks(t, plain()), api.Now, b, []api.Event{trade(b, 1, 10, 5), trade(b, 2, 11, 5), gone(left(b, 2))}, 0, 0},
		{asks(t, plain()), api.Now, left(b, 10), []api.Event{trade(b, 1, 10, 5), trade(b, 2, 11, 5)}, 0, 0},
		{asks(t, plain()), api.Now, buy(9, 0, 9, 3), []api.Event{gone(buy(9, 0, 9, 3))}, 0, 0},
		{asks(t, plain()), api.Whole, b, nil, 0, api.ErrFill},
		{asks(t, plain()), api.Whole, left(b, 11), nil, 0, api.ErrFill},
		{asks(t, plain()), api.Whole, left(b, 10), []api.Event{trade(b, 1, 10, 5), trade(b, 2, 11, 5)}, 0, 0},
		{asks(t, plain()), api.Whole, left(b, 1), []api.Event{trade(b, 1, 10, 1)}, 0, 0},
		{asks(t, plain()), api.Post, b, nil, 0, api.ErrCross},
		{asks(t, plain()), api.Post, buy(9, 0, 10, 1), nil, 0, api.ErrCross},
		{asks(t, plain()), api.Post, buy(9, 0, 9, 3), nil, 3, 0},
		{bids(t, plain()), api.Limit, s, []api.Event{trade(s, 1, 12, 5), trade(s, 2, 11, 5)}, 2, 0},
		{bids(t, plain()), api.Now, s, []api.Event{trade(s, 1, 12, 5), trade(s, 2, 11, 5), gone(left(s, 2))}, 0, 0},
		{bids(t, plain()), api.Whole, s, nil, 0, api.ErrFill},
		{bids(t, plain()), api.Whole, left(s, 10), []api.Event{trade(s, 1, 12, 5), trade(s, 2, 11, 5)}, 0, 0},
		{bids(t, plain()), api.Post, sell(9, 0, 12, 1), nil, 0, api.ErrCross},
		{bids(t, plain()), api.Post, sell(9, 0, 13, 1), nil, 1, 0},
	} {
		if c.none != 0 {
			refuses(t, c.m, place(c.kind, c.o), c.none)
			continue
		}
		tells(t, c.m, place(c.kind, c.o), append([]api.Event{accept(c.o)}, c.want...)...)
		s := c.m.State()
		rest := int64(0)
		for _, o := range s.Orders {
			if o.ID == 9 {
				rest = o.Qty
				if o != at(4, left(c.o, rest)) {
					t.Error(i, o)
				}
			}
		}
		held := s.Till.Purses[0].HeldCash
		if c.o.Side == api.Sell {
			held = s.Till.Purses[0].HeldStock * c.o.Price
		}
		if rest != c.rest || held != c.rest*c.o.Price || s.Next != 5 {
			t.Error(i, rest, held, s.Next)
		}
	}
}

func TestP22_3MarketOrders(t *testing.T) {
	o := buy(9, 0, 0, 12)
	any := func(o api.Order) api.Command { // the price that is asked for counts for nothing
		c := place(api.Market, o)
		c.Price = -77
		return c
	}
	m := asks(t, plain())
	tells(t, m, any(o), accept(o), traded(o, 1, 10, 5, 0, 0), traded(o, 2, 11, 5, 0, 0), traded(o, 3, 12, 2, 0, 0))
	has(t, m, 0, purse.Purse{Cash: 871, Stock: 112, Volume: 129})
	if s := m.State(); s.Last != 12 || s.Next != 5 {
		t.Error(s.Last, s.Next)
	}
	m = asks(t, plain())
	tells(t, m, any(left(o, 20)), accept(left(o, 20)), traded(o, 1, 10, 5, 0, 0), traded(o, 2, 11, 5, 0, 0), traded(o, 3, 12, 5, 0, 0), of(api.EvCancel, left(o, 5), api.ErrLeft))
	s := sell(9, 0, 0, 17)
	m = bids(t, plain())
	tells(t, m, any(s), accept(s), traded(s, 1, 12, 5, 0, 0), traded(s, 2, 11, 5, 0, 0), traded(s, 3, 10, 5, 0, 0), of(api.EvCancel, left(s, 2), api.ErrLeft))
	has(t, m, 0, purse.Purse{Cash: 1165, Stock: 85, Volume: 165})
	m = rich(t, plain(), 0, 0)
	tells(t, m, any(o), accept(o), of(api.EvCancel, o, api.ErrLeft)) // one that buys holds nothing
	refuses(t, m, any(sell(8, 0, 0, 1)), api.ErrFunds)               // one that sells its quantity
}

func TestP22_3MarketOrdersOfLittleCash(t *testing.T) {
	m := asks(t, plain())
	tells(t, m, withdraw(0, api.Cash, 900), moved(0, api.Cash, -900))
	tells(t, m, place(api.Limit, buy(8, 0, 1, 17)), accept(buy(8, 0, 1, 17)))
	o := buy(9, 0, 0, 12) // 83 are free: 50 for 5, then 33 for 3 at 11
	tells(t, m, place(api.Market, o), accept(o), traded(o, 1, 10, 5, 0, 0), traded(o, 2, 11, 3, 0, 0), of(api.EvCancel, left(o, 4), api.ErrLeft))
	has(t, m, 0, purse.Purse{Cash: 17, Stock: 108, HeldCash: 17, Volume: 83})
	tells(t, m, place(api.Market, buy(10, 0, 0, 1)), accept(buy(10, 0, 0, 1)), of(api.EvCancel, buy(10, 0, 0, 1), api.ErrLeft))

	m = asks(t, by(func(r *api.Rules) { r.Lot = 5 }))
	tells(t, m, withdraw(0, api.Cash, 896), moved(0, api.Cash, -896))
	o = buy(9, 0, 0, 10) // 104 are free: behind 50 for 5 they pay for 4 at 11, which are no lot
	tells(t, m, place(api.Market, o), accept(o), traded(o, 1, 10, 5, 0, 0), of(api.EvCancel, left(o, 5), api.ErrLeft))
	tells(t, m, deposit(0, api.Cash, 1), moved(0, api.Cash, 1))
	o.ID = 10
	tells(t, m, place(api.Market, o), accept(o), traded(o, 2, 11, 5, 0, 0), of(api.EvCancel, left(o, 5), api.ErrLeft))
}

func TestP22_3Fees(t *testing.T) {
	r := by(func(r *api.Rules) {
		r.Fees = []api.Tier{{From: 0, Maker: 20000, Taker: 50000}, {From: 50, Maker: 10000, Taker: 30000}, {From: 105, Maker: 0, Taker: 0}}
		r.Round = api.Up
	})
	m := asks(t, r)
	o := buy(9, 0, 12, 12)
	tells(t, m, place(api.Limit, o), accept(o),
		traded(o, 1, 10, 5, 3, 1), // 50 at 5 and 2 in a hundred
		traded(o, 2, 11, 5, 2, 2), // 55: who comes has traded for 50, at 3 in a hundred
		traded(o, 3, 12, 2, 0, 1)) // 24: it has traded for 105
	has(t, m, 0, purse.Purse{Cash: 871, Stock: 112, Owed: 5, Volume: 129})
	has(t, m, 1, purse.Purse{Cash: 1050, Stock: 95, Owed: 1, Volume: 50})
	s := sell(10, 1, 11, 1)
	tells(t, m, place(api.Limit, buy(8, 2, 11, 1)), accept(buy(8, 2, 11, 1)))
	tells(t, m, place(api.Now, s), accept(s), traded(s, 8, 11, 1, 1, 1)) // Fee is who comes' also where it sells
	has(t, m, 1, purse.Purse{Cash: 1061, Stock: 94, Owed: 2, Volume: 61})
	has(t, m, 2, purse.Purse{Cash: 1044, Stock: 96, Owed: 3, Volume: 66})
}

func TestP22_3OwnTrades(t *testing.T) {
	o := buy(9, 2, 12, 12)
	own := of(api.EvCancel, sell(2, 2, 11, 5), api.ErrSelf)
	trade := func(other uint64, price, qty int64) api.Event { return traded(o, other, price, qty, 0, 0) }
	for _, c := range []struct {
		self int
		want []api.Event
		held int64 // of its stock
	}{
		{api.Allow, []api.Event{trade(1, 10, 5), trade(2, 11, 5), trade(3, 12, 2)}, 0},
		{api.DropNew, []api.Event{trade(1, 10, 5), of(api.EvCancel, left(o, 7), api.ErrSelf)}, 5},
		{api.DropOld, []api.Event{trade(1, 10, 5), trade(3, 12, 5), own}, 0},
		{api.DropBoth, []api.Event{trade(1, 10, 5), own, of(api.EvCancel, left(o, 7), api.ErrSelf)}, 0},
	} {
		for _, kind := range []int{api.Limit, api.Now, api.Market, api.Whole} {
			m := asks(t, by(func(r *api.Rules) { r.Self = c.self }))
			tells(t, m, deposit(2, api.Cash, 5), moved(2, api.Cash, 5))
			accepted, want := o, append([]api.Event{}, c.want...)
			if kind == api.Market {
				accepted.Price = 0
			}
			for i := range want {
				if want[i].Kind == api.EvCancel && want[i].ID == 9 {
					want[i].Price = accepted.Price
				}
			}
			if c.self == api.DropOld && kind != api.Limit {
				want = append(want, of(api.EvCancel, left(accepted, 2), api.ErrLeft))
			}
			if kind == api.Whole && c.self != api.Allow {
				refuses(t, m, place(kind, o), api.ErrFill)
				continue
			}
			tells(t, m, place(kind, o), append([]api.Event{accept(accepted)}, want...)...)
			p := m.State().Till.Purses[2]
			resting := int64(0)
			if c.self == api.DropOld && kind == api.Limit {
				resting = 24
			}
			if p.HeldStock != c.held || p.HeldCash != resting {
				t.Error(c.self, kind, p)
			}
		}
	}
	m := asks(t, by(func(r *api.Rules) { r.Self = api.DropOld }))
	tells(t, m, place(api.Whole, left(o, 10)), accept(left(o, 10)), trade(1, 10, 5), trade(3, 12, 5), own)
	m = asks(t, plain())
	tells(t, m, place(api.Post, buy(8, 2, 9, 1)), accept(buy(8, 2, 9, 1)))
	refuses(t, m, place(api.Post, buy(7, 1, 10, 1)), api.ErrCross) // by its own one, too
}

func TestP22_3OwnTradesAreDoneWithOneself(t *testing.T) {
	m := rich(t, by(func(r *api.Rules) {
		r.Fees = []api.Tier{{Maker: 10000, Taker: 20000}, {From: 100, Maker: 100, Taker: 100}}
	}), 100, 10)
	m.Apply(place(api.Limit, sell(1, 0, 10, 10)))
	o := buy(2, 0, 10, 10)
	tells(t, m, place(api.Limit, o), accept(o), traded(o, 1, 10, 10, 2, 1)) // both by the volume ahead of it
	has(t, m, 0, purse.Purse{Cash: 100, Stock: 10, Owed: 3, Volume: 200})
}

func TestP22_3ShareAndLots(t *testing.T) {
	r := by(func(r *api.Rules) { r.Priority, r.Lot = api.ByShare, 3 })
	m := rich(t, r, 1000, 100)
	for i, n := range []int64{6, 6, 3} {
		m.Apply(place(api.Limit, sell(uint64(i+1), i+1, 10, n)))
	}
	o := buy(9, 0, 10, 9)
	tells(t, m, place(api.Now, o), accept(o), traded(o, 1, 10, 6, 0, 0), traded(o, 2, 10, 3, 0, 0))
	rests(t, m, at(2, sell(2, 2, 10, 3)), at(3, sell(3, 3, 10, 3)))
}

func TestP22_3RefusedWithTheFirst(t *testing.T) {
	r := by(func(r *api.Rules) { r.Lot, r.Band, r.Ticks = 5, 500000, []api.Tick{{From: 0, Size: 2}} })
	full := rich(t, r, 10000, 1000)
	full.Apply(place(api.Limit, sell(500, 1, 20, 5)))
	full.Apply(place(api.Limit, buy(501, 2, 20, 5))) // the last price is 20
	for i := range uint64(api.MaxOrders) {
		full.Apply(place(api.Limit, sell(i, 1, 22, 5)))
	}
	calling := full.Clone()
	calling.Apply(halt())
	for _, c := range []struct {
		m *market.Market
		c api.Command
		e api.Errno
	}{
		// the rules', one of them ahead of the other
		{calling, place(api.Post, api.Order{ID: 1, Account: -1, Side: 3, Price: 1, Qty: 1}), api.ErrArg},
		{calling, place(api.Post, api.Order{ID: 1, Side: 3, Price: 1, Qty: 1}), api.ErrArg},
		{calling, place(6, buy(1, 0, 1, 1)), api.ErrArg},
		{calling, place(0, buy(1, 0, 1, 1)), api.ErrArg},
		{calling, place(api.Post, buy(1, 0, 1, 1)), api.ErrTick},
		{calling, place(api.Post, buy(1, 0, 0, 1)), api.ErrTick},
		{calling, place(api.Post, buy(1, 0, 2, 1)), api.ErrLot},
		{calling, place(api.Post, buy(1, 0, 2, 0)), api.ErrLot},
		{calling, place(api.Post, buy(1, 0, 32, 500)), api.ErrBand},
		{calling, place(api.Market, buy(1, 0, 32, 501)), api.ErrLot},
		// then the phase
		{calling, place(api.Post, buy(1, 0, 30, 5000)), api.ErrState},
		{calling, place(api.Now, buy(1, 0, 30, 5000)), api.ErrState},
		{calling, place(api.Whole, buy(1, 0, 30, 5000)), api.ErrState},
		{calling, place(api.Market, buy(1, 0, 33, 5000)), api.ErrState},
		{calling, place(api.Limit, buy(1, 0, 30, 5000)), api.ErrThere},
		// then its ID
		{full, place(api.Post, buy(1, 0, 30, 5000)), api.ErrThere},
		{full, place(api.Limit, buy(63, 0, 30, 5000)), api.ErrThere},
		{full, place(api.Now, buy(1, 0, 30, 5000)), api.ErrThere},
		{full, place(api.Whole, sell(1, 0, 30, 5000)), api.ErrThere},
		{full, place(api.Market, sell(1, 0, 30, 5000)), api.ErrThere},
		// then the book, of those that may rest
		{full, place(api.Post, buy(64, 0, 30, 5000)), api.ErrFull},
		{full, place(api.Limit, buy(64, 0, 30, 5000)), api.ErrFull},
		{full, place(api.Limit, buy(64, 0, 30, 5)), api.ErrFull}, // though nothing of it would rest
		{calling, place(api.Limit, buy(64, 0, 30, 5000)), api.ErrFull},
		{full, place(api.Now, buy(64, 0, 30, 5000)), api.ErrFunds},
		{full, place(api.Whole, buy(64, 0, 30, 5000)), api.ErrFunds},
		{full, place(api.Whole, sell(64, 0, 22, 5000)), api.ErrFunds},
		{full, place(api.Market, sell(64, 0, 30, 5000)), api.ErrFunds},
		{full, place(api.Now, buy(64, 0, 30, 1<<40-1)), api.ErrFunds},
		// and then what it would be filled with
		{full, place(api.Whole, buy(64, 0, 22, 325)), api.ErrFill},
		{full, place(api.Whole, buy(64, 0, 20, 5)), api.ErrFill},
	} {
		refuses(t, c.m, c.c, c.e)
	}
	o := buy(64, 0, 22, 320)
	if l := full.Clone().Apply(place(api.Whole, o)); len(l) != 65 || l[0] != accept(o) || l[64] != traded(o, 63, 22, 5, 0, 0) {
		t.Error(l)
	}
}

func TestP22_3RefusedAheadOfMeeting(t *testing.T) {
	m := asks(t, plain())
	refuses(t, m, place(api.Post, buy(9, 0, 10, 101)), api.ErrFunds)
	refuses(t, m, place(api.Post, buy(9, 0, 10, 100)), api.ErrCross)
	refuses(t, m, place(api.Post, buy(1, 0, 10, 101)), api.ErrThere)
	refuses(t, m, place(api.Whole, buy(9, 0, 10, 101)), api.ErrFunds)
	refuses(t, m, place(api.Whole, buy(9, 0, 10, 100)), api.ErrFill)
	m = rich(t, plain(), api.MaxMoney/8, 0)
	big := []api.Order{buy(1, 0, 1<<31, 1<<31+1), buy(1, 0, api.MaxPrice, api.MaxQty)}
	for _, kind := range []int{api.Limit, api.Now, api.Whole, api.Post} {
		for _, o := range big {
			refuses(t, m, place(kind, o), api.ErrBig)
		}
		refuses(t, m, place(kind, buy(1, 0, 1<<31, 1<<31)), api.ErrFunds)
		refuses(t, m, place(kind, sell(1, 0, api.MaxPrice, api.MaxQty)), api.ErrFunds)
	}
	tells(t, m, place(api.Market, big[1]), accept(buy(1, 0, 0, api.MaxQty)), of(api.EvCancel, buy(1, 0, 0, api.MaxQty), api.ErrLeft))
	tells(t, m, place(api.Limit, buy(1, 0, 1<<29, 1<<30)), accept(buy(1, 0, 1<<29, 1<<30)))
	refuses(t, m, place(api.Limit, buy(2, 0, 1, 1)), api.ErrFunds)
	refuses(t, m, replace(0, 1, 1<<29, 1<<34), api.ErrBig)
	refuses(t, m, replace(0, 1, 1<<29, 1<<30+1), api.ErrFunds)
}

func TestP22_3WholeOfLittleCash(t *testing.T) {
	m := rich(t, plain(), 100, 10)
	m.Apply(place(api.Limit, sell(1, 1, 10, 10)))
	o := buy(2, 0, 10, 10) // it holds all its cash, and pays with that
	tells(t, m, place(api.Whole, o), accept(o), traded(o, 1, 10, 10, 0, 0))
	has(t, m, 0, purse.Purse{Stock: 20, Volume: 100})
}

func TestP22_3GreatNumbers(t *testing.T) {
	s := made(t, by(func(r *api.Rules) { r.Fees = []api.Tier{{Maker: api.MaxFee, Taker: api.MaxFee}} })).State()
	s.Till.Purses[0] = purse.Purse{Cash: api.MaxMoney, Owed: api.MaxMoney - 1, Volume: api.MaxMoney - 1}
	s.Till.Purses[1] = purse.Purse{Stock: api.MaxQty}
	m := restored(t, s)
	m.Apply(place(api.Limit, sell(1, 1, 1<<22, api.MaxQty)))
	o := buy(2, 0, 0, api.MaxQty)
	const fee = api.MaxMoney / 10
	tells(t, m, place(api.Market, o), accept(o), traded(o, 1, 1<<22, api.MaxQty, fee, fee))
	has(t, m, 0, purse.Purse{Stock: api.MaxQty, Owed: api.MaxMoney, Volume: api.MaxMoney})
	has(t, m, 1, purse.Purse{Cash: api.MaxMoney, Owed: fee, Volume: api.MaxMoney})
}
