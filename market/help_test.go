package market_test

import (
	"reflect"
	"slices"
	"testing"

	"jobber/api"
	"jobber/market"
	"jobber/purse"
	"jobber/rules"
)

// plain tells a rule set that lets nearly all be, and takes no fees.
func plain() api.Rules {
	return api.Rules{
		Version: 1, Ticks: []api.Tick{{From: 0, Size: 1}}, Lot: 1, Fees: []api.Tier{{}},
		Round: api.Down, Priority: api.ByTime, Self: api.Allow, Layout: api.Ladder,
	}
}

// by tells plain rules with something of them changed.
func by(change func(r *api.Rules)) api.Rules {
	r := plain()
	change(&r)
	return r
}

// made tells a new market of rules that may be.
func made(t *testing.T, r api.Rules) *market.Market {
	t.Helper()
	m, e := market.New(r)
	if e != api.OK || m == nil {
		t.Fatal("no market", int(e))
	}
	return m
}

// restored tells a market of a state that is sound.
func restored(t *testing.T, s market.State) *market.Market {
	t.Helper()
	m, e := market.Restore(s)
	if e != api.OK || m == nil {
		t.Fatal("no market", int(e), s)
	}
	return m
}

// rich tells a market in which each account has so much cash, and so much stock.
func rich(t *testing.T, r api.Rules, cash, stock int64) *market.Market {
	t.Helper()
	s := made(t, r).State()
	for i := range s.Till.Purses {
		s.Till.Purses[i] = purse.Purse{Cash: cash, Stock: stock}
	}
	return restored(t, s)
}

func deposit(account, asset int, n int64) api.Command {
	return api.Command{Kind: api.CmdDeposit, Account: account, Asset: asset, Qty: n}
}

func withdraw(account, asset int, n int64) api.Command {
	return api.Command{Kind: api.CmdWithdraw, Account: account, Asset: asset, Qty: n}
}

// place tells a Place of an order, of which Seq counts for nothing.
func place(kind int, o api.Order) api.Command {
	return api.Command{Kind: api.CmdPlace, Account: o.Account, ID: o.ID, Side: o.Side, Type: kind, Price: o.Price, Qty: o.Qty}
}

func buy(id uint64, account int, price, qty int64) api.Order {
	return api.Order{ID: id, Account: account, Side: api.Buy, Price: price, Qty: qty}
}

func sell(id uint64, account int, price, qty int64) api.Order {
	o := buy(id, account, price, qty)
	o.Side = api.Sell
	return o
}

func cancel(account int, id uint64) api.Command {
	return api.Command{Kind: api.CmdCancel, Account: account, ID: id}
}

func replace(account int, id uint64, price, qty int64) api.Command {
	return api.Command{Kind: api.CmdReplace, Account: account, ID: id, Price: price, Qty: qty}
}

func settle(account int) api.Command {
	return api.Command{Kind: api.CmdSettle, Account: account}
}

func halt() api.Command { return api.Command{Kind: api.CmdHalt} }

func uncross() api.Command { return api.Command{Kind: api.CmdUncross} }

// of tells an event of an order.
func of(kind int, o api.Order, code api.Errno) api.Event {
	return api.Event{Kind: kind, Account: o.Account, ID: o.ID, Side: o.Side, Price: o.Price, Qty: o.Qty, Code: code}
}

// accept tells that an order is accepted.
func accept(o api.Order) api.Event { return of(api.EvAccept, o, api.OK) }

// traded tells a trade of one that comes with the order other.
func traded(o api.Order, other uint64, price, qty, fee, fee2 int64) api.Event {
	return api.Event{
		Kind: api.EvTrade, Account: o.Account, ID: o.ID, Other: other,
		Side: o.Side, Price: price, Qty: qty, Fee: fee, Fee2: fee2,
	}
}

// left tells an order of which so much is left.
func left(o api.Order, qty int64) api.Order {
	o.Qty = qty
	return o
}

// at tells an order at its place among those of its price.
func at(seq uint64, o api.Order) api.Order {
	o.Seq = seq
	return o
}

// phase tells that a phase begins.
func phase(p int) api.Event { return api.Event{Kind: api.EvPhase, Side: p} }

// moved tells that there is more of an asset.
func moved(account, asset int, n int64) api.Event {
	return api.Event{Kind: api.EvMove, Account: account, Side: asset, Qty: n}
}

// tells has a market do a command, and holds what it tells against what it should; it is sound then.
func tells(t *testing.T, m *market.Market, c api.Command, want ...api.Event) {
	t.Helper()
	if l := m.Apply(c); !slices.Equal(l, want) {
		t.Errorf("%+v:\n%+v\nnot\n%+v", c, l, want)
	}
	if !market.Sound(m.State()) {
		t.Errorf("%+v: not sound", c)
	}
}

// refuses has a market do a command that it should refuse, and holds that nothing turns.
func refuses(t *testing.T, m *market.Market, c api.Command, e api.Errno) {
	t.Helper()
	was := m.State()
	tells(t, m, c, reject(c, e)...)
	if !reflect.DeepEqual(m.State(), was) {
		t.Errorf("%+v: turned, though refused", c)
	}
}

// rests holds what rests in a market.
func rests(t *testing.T, m *market.Market, want ...api.Order) {
	t.Helper()
	if l := m.State().Orders; !slices.Equal(l, want) {
		t.Errorf("%+v\nnot\n%+v", l, want)
	}
}

// has holds what an account has.
func has(t *testing.T, m *market.Market, account int, want purse.Purse) {
	t.Helper()
	if p := m.State().Till.Purses[account]; p != want {
		t.Errorf("%d: %+v\nnot %+v", account, p, want)
	}
}

// states tell sound states of many kinds.
func states(t *testing.T) []market.State {
	empty := made(t, plain()).State()
	m := rich(t, by(func(r *api.Rules) { r.Layout, r.Self = api.Grove, api.DropBoth }), 1000, 100)
	for i := range uint64(6) {
		m.Apply(place(api.Limit, buy(i, int(i%3), 10+int64(i%2), 5)))
		m.Apply(place(api.Limit, sell(10+i, int(i%4), 12+int64(i%2), 5)))
	}
	trading := m.State()
	m.Apply(halt())
	m.Apply(place(api.Limit, buy(30, 7, 15, 9)))
	calling := m.State()
	great := market.State{
		Rules: rules.Copy(plain()), Phase: api.Calling, Last: api.MaxPrice, Next: 1<<63 - 1,
		Orders: []api.Order{at(7, buy(1, 7, 1<<31, 1<<31)), at(1<<63-2, sell(2, 7, api.MaxPrice, api.MaxQty))},
	}
	great.Till.Purses[7] = purse.Purse{
		Cash: api.MaxMoney, Stock: api.MaxMoney, HeldCash: 1 << 62, HeldStock: api.MaxQty, Owed: api.MaxMoney, Volume: api.MaxMoney,
	}
	return []market.State{empty, trading, calling, great}
}
