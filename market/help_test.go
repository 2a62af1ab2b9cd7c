package market_test

import (
	"reflect"
	"slices"
	"testing"

	"jobber/api"
	"jobber/market"
	"jobber/purse"
	"jobber/sample"
)

// What the tests begin with.
var (
	plain, by         = sample.Rules, sample.By
	buy, sell, at     = sample.Buy, sample.Sell, sample.At
	deposit, withdraw = sample.Deposit, sample.Withdraw
	place, settle     = sample.Place, sample.Settle
	cancel, replace   = sample.Cancel, sample.Replace
	halt, uncross     = sample.Halt, sample.Uncross
)

// made tells a new market of rules that may be.
func made(t *testing.T, r api.Rules) *market.Market {
	t.Helper()
	m, e := market.New(r)
	if e != api.OK || m == nil {
		t.Fatal("no market", int(e))
	}
	return m
}

// restored tells a market of a state that is sound.
func restored(t *testing.T, s market.State) *market.Market {
	t.Helper()
	m, e := market.Restore(s)
	if e != api.OK || m == nil {
		t.Fatal("no market", int(e), s)
	}
	return m
}

// rich tells a market in which each account has so much cash, and so much stock.
func rich(t *testing.T, r api.Rules, cash, stock int64) *market.Market {
	t.Helper()
	m := sample.Rich(r, cash, stock)
	if m == nil {
		t.Fatal("no market")
	}
	return m
}

// of tells an event of an order.
func of(kind int, o api.Order, code api.Errno) api.Event {
	return api.Event{Kind: kind, Account: o.Account, ID: o.ID, Side: o.Side, Price: o.Price, Qty: o.Qty, Code: code}
}

// accept tells that an order is accepted.
func accept(o api.Order) api.Event { return of(api.EvAccept, o, api.OK) }

// traded tells a trade of one that comes with the order other.
func traded(o api.Order, other uint64, price, qty, fee, fee2 int64) api.Event {
	return api.Event{
		Kind: api.EvTrade, Account: o.Account, ID: o.ID, Other: other,
		Side: o.Side, Price: price, Qty: qty, Fee: fee, Fee2: fee2,
	}
}

// left tells an order of which so much is left.
func left(o api.Order, qty int64) api.Order {
	o.Qty = qty
	return o
}

// phase tells that a phase begins.
func phase(p int) api.Event { return api.Event{Kind: api.EvPhase, Side: p} }

// moved tells that there is more of an asset.
func moved(account, asset int, n int64) api.Event {
	return api.Event{Kind: api.EvMove, Account: account, Side: asset, Qty: n}
}

// tells has a market do a command, and holds what it tells against what it should; it is sound then.
func tells(t *testing.T, m *market.Market, c api.Command, want ...api.Event) {
	t.Helper()
	if l := m.Apply(c); !slices.Equal(l, want) {
		t.Errorf("%+v:\n%+v\nnot\n%+v", c, l, want)
	}
	if !market.Sound(m.State()) {
		t.Errorf("%+v: not sound", c)
	}
}

// refuses has a market do a command that it should refuse, and holds that nothing turns.
func refuses(t *testing.T, m *market.Market, c api.Command, e api.Errno) {
	t.Helper()
	was := m.State()
	tells(t, m, c, reject(c, e)...)
	if !reflect.DeepEqual(m.State(), was) {
		t.Errorf("%+v: turned, though refused", c)
	}
}

// rests holds what rests in a market.
func rests(t *testing.T, m *market.Market, want ...api.Order) {
	t.Helper()
	if l := m.State().Orders; !slices.Equal(l, want) {
		t.Errorf("%+v\nnot\n%+v", l, want)
	}
}

// has holds what an account has.
func has(t *testing.T, m *market.Market, account int, want purse.Purse) {
	t.Helper()
	if p := m.State().Till.Purses[account]; p != want {
		t.Errorf("%d: %+v\nnot %+v", account, p, want)
	}
}
