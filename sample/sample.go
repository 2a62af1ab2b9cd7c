// Package sample tells what tests begin with: rule sets, orders, commands and markets, plain ones, and ones that are chosen by what a test hands in.
package sample

import (
	"jobber/api"
	"jobber/market"
	"jobber/purse"
)

// Rules tells a rule set that lets nearly all be, and takes no fees.
func Rules() api.Rules {
	return api.Rules{
		Version: 1, Ticks: []api.Tick{{From: 0, Size: 1}}, Lot: 1, Fees: []api.Tier{{}},
		Round: api.Down, Priority: api.ByTime, Self: api.Allow, Layout: api.Ladder,
	}
}

// By tells that rule set with something of it changed.
func By(change func(r *api.Rules)) api.Rules {
	r := Rules()
	change(&r)
	return r
}

// Spoils tell changes, each of which makes a rule set one that may not be.
func Spoils() []func(r *api.Rules) {
	return []func(r *api.Rules){
		func(r *api.Rules) { r.Version = 0 },
		func(r *api.Rules) { r.Ticks = nil },
		func(r *api.Rules) { r.Lot = 0 },
		func(r *api.Rules) { r.Band = -1 },
		func(r *api.Rules) { r.Fees = nil },
		func(r *api.Rules) { r.Round = 4 },
		func(r *api.Rules) { r.Priority = 0 },
		func(r *api.Rules) { r.Self = 5 },
		func(r *api.Rules) { r.Layout = 3 },
	}
}

// Buy tells a buyer's order.
func Buy(id uint64, account int, price, qty int64) api.Order {
	return api.Order{ID: id, Account: account, Side: api.Buy, Price: price, Qty: qty}
}

// Sell tells a seller's order.
func Sell(id uint64, account int, price, qty int64) api.Order {
	o := Buy(id, account, price, qty)
	o.Side = api.Sell
	return o
}

// At tells an order at its place among those of its price.
func At(seq uint64, o api.Order) api.Order {
	o.Seq = seq
	return o
}

// Rich tells a market in which each account has so much cash, and so much stock; nil, where that may not be.
func Rich(r api.Rules, cash, stock int64) *market.Market {
	s := market.State{Rules: r, Phase: api.Trading, Next: 1}
	for i := range s.Till.Purses {
		s.Till.Purses[i] = purse.Purse{Cash: cash, Stock: stock}
	}
	m, _ := market.Restore(s)
	return m
}

// States tell sound states of many kinds: without orders; of orders of both sides, in the phase Trading, and in a call; and of great numbers.
func States() []market.State {
	empty := market.State{Rules: Rules(), Phase: api.Trading, Next: 1}
	m := Rich(By(func(r *api.Rules) { r.Layout, r.Self = api.Grove, api.DropBoth }), 1000, 100)
	for i := range uint64(6) {
		m.Apply(Place(api.Limit, Buy(i, int(i%3), 10+int64(i%2), 5)))
		m.Apply(Place(api.Limit, Sell(10+i, int(i%4), 12+int64(i%2), 5)))
	}
	trading := m.State()
	m.Apply(Halt())
	m.Apply(Place(api.Limit, Buy(30, 7, 15, 9)))
	return []market.State{empty, trading, m.State(), great()}
}

// great tells a sound state of the greatest numbers.
func great() market.State {
	s := market.State{
		Rules: Rules(), Phase: api.Calling, Last: api.MaxPrice, Next: 1<<63 - 1,
		Orders: []api.Order{
			At(7, Buy(1, 7, 1<<31, 1<<31)),
			At(1<<63-2, Sell(2, 7, api.MaxPrice, api.MaxQty)),
		},
	}
	s.Till.Purses[7] = purse.Purse{
		Cash: api.MaxMoney, Stock: api.MaxMoney, HeldCash: 1 << 62, HeldStock: api.MaxQty,
		Owed: api.MaxMoney, Volume: api.MaxMoney,
	}
	return s
}
