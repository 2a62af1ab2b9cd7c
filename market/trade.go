package market

import (
	"jobber/api"
	"jobber/call"
	"jobber/fees"
	"jobber/purse"
)

// trade is a trade of two orders: of who comes with who rests, in a call of the buyer with the seller.
type trade struct {
	first, second api.Order
	role          int // the first one's; the second one is a maker
	price, qty    int64
}

// trade does a trade, and tells it.
func (m *Market) trade(t trade) api.Event {
	cash := t.price * t.qty // there is room: the buyer has as much
	fee, fee2 := m.fee(t.first, cash, t.role), m.fee(t.second, cash, api.MakerFee)
	buyer, seller, buyFee, sellFee := t.first, t.second, fee, fee2
	if t.first.Side == api.Sell {
		buyer, seller, buyFee, sellFee = t.second, t.first, fee2, fee
	}
	m.is.Till, _ = purse.Trade(m.is.Till, purse.Deal{ // what is traded is there: it was held, or is free
		Buyer: buyer.Account, Seller: seller.Account, Cash: cash, Stock: t.qty,
		HeldCash: buyer.Price * t.qty, HeldStock: t.qty, // a Market's price is 0
		BuyFee: buyFee, SellFee: sellFee,
	})
	m.is.Last = t.price
	return api.Event{
		Kind: api.EvTrade, Account: t.first.Account, ID: t.first.ID, Other: t.second.ID,
		Side: t.first.Side, Price: t.price, Qty: t.qty, Fee: fee, Fee2: fee2,
	}
}

// fee tells what an order's account owes for a trade.
func (m *Market) fee(o api.Order, cash int64, role int) int64 {
	volume := m.is.Till.Purses[o.Account].Volume
	n, _ := fees.Of(m.is.Rules.Fees, volume, cash, role, m.is.Rules.Round)
	return n
}

// uncross ends a call.
func (m *Market) uncross() ([]api.Event, api.Errno) {
	if m.is.Phase != api.Calling {
		return nil, api.ErrState
	}
	all, r := m.book.All(), m.is.Rules
	price, volume := call.Price(all, m.is.Last)
	var trades []trade
	for _, d := range call.Deals(all, price, volume, r.Priority, r.Lot) {
		m.book.Cut(d.Buy.ID, d.Qty)
		m.book.Cut(d.Sell.ID, d.Qty)
		trades = append(trades, trade{first: d.Buy, second: d.Sell, role: api.MakerFee, price: price, qty: d.Qty})
	}
	return append(each(trades, m.trade), m.turn(api.Trading)), api.OK
}

// each does something with each of some, and tells the events.
func each[T any](l []T, do func(t T) api.Event) []api.Event {
	var events []api.Event
	for _, t := range l {
		events = append(events, do(t))
	}
	return events
}
