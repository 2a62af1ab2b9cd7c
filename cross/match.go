package cross

import (
	"jobber/api"
	"jobber/coin"
	"jobber/layout"
	"jobber/limits"
	"jobber/order"
	"jobber/own"
	"jobber/share"
)

// match is one that comes, and how far it has come.
type match struct {
	book   *layout.Book
	rules  api.Rules
	taker  Taker // of Qty and Cash what is left
	result Result
}

// price tells the price at which the taker meets somebody next.
func (m *match) price() (int64, bool) {
	t := m.taker
	best, ok := m.book.Best(other(t.Side))
	if !ok || t.Price != 0 && !order.Crosses(t.Side, t.Price, best.Price) {
		return 0, false
	}
	return best.Price, true
}

// meet has the taker meet those at a price, up to the first own one, and tells whether it goes on, with something left.
func (m *match) meet(price int64) bool {
	run, drop, stop := own.Meet(m.rules.Self, m.taker.Account, m.book.Level(other(m.taker.Side), price))
	if !m.trade(price, run) || m.taker.Qty == 0 { // an own one is met only while something is left
		return false
	}
	for _, id := range drop {
		gone, _ := m.book.Take(id)
		m.result.Drops = append(m.result.Drops, gone)
	}
	m.result.Stop = stop
	return !stop
}

// trade has the taker trade with a run at a price, and tells whether nobody of the run has anything left.
func (m *match) trade(price int64, run []api.Order) bool {
	payable := func(qty int64) int64 {
		if !m.pays() {
			return qty
		}
		n, _ := coin.Div(m.taker.Cash, 1, price, api.Down) // there is room: a price is at least 1
		return min(qty, limits.Trim(m.rules.Lot, n))
	}
	parts := share.Share(m.rules.Priority, run, payable(m.taker.Qty), m.rules.Lot)
	empty := len(parts) == len(run) // where there is nothing to share, none is told of anybody
	for i, n := range parts {
		if n > 0 {
			m.fill(run[i], n)
		}
		empty = empty && n == run[i].Qty
	}
	return empty
}

// fill has one that waits trade so much.
func (m *match) fill(rest api.Order, qty int64) {
	m.book.Cut(rest.ID, qty)
	m.result.Fills = append(m.result.Fills, Fill{Rest: rest, Qty: qty})
	m.taker.Qty -= qty
	if m.pays() {
		m.taker.Cash -= rest.Price * qty // it has as much: no more was shared than it can pay for
	}
}

// pays tells whether the taker's cash may come to an end.
func (m *match) pays() bool {
	return m.taker.Side == api.Buy && m.taker.Cash >= 0
}
