package market

import (
	"jobber/api"
	"jobber/cross"
	"jobber/fault"
	"jobber/purse"
	"jobber/rules"
)

// place places an order.
func (m *Market) place(c api.Command) ([]api.Event, api.Errno) {
	o := coming{api.Order{ID: c.ID, Account: c.Account, Side: c.Side, Price: c.Price, Qty: c.Qty}, c.Type}
	if o.kind == api.Market {
		o.Price = 0
	}
	till, e := m.admit(o)
	if e != api.OK {
		return nil, e
	}
	m.is.Till = till
	return append([]api.Event{told(api.EvAccept, o.Order)}, m.enter(o)...), api.OK
}

// cancel cancels an order.
func (m *Market) cancel(c api.Command) ([]api.Event, api.Errno) {
	o, e := m.find(c)
	if e != api.OK {
		return nil, e
	}
	m.book.Take(o.ID)
	return []api.Event{m.gone(resting(o), api.OK)}, api.OK
}

// replace gives an order another price and quantity.
func (m *Market) replace(c api.Command) ([]api.Event, api.Errno) {
	old, e := m.find(c)
	if e != api.OK {
		return nil, e
	}
	o := resting(old)
	o.Price, o.Qty = c.Price, c.Qty
	if e := m.fits(o); e != api.OK {
		return nil, e
	}
	till, e := o.held(resting(old).freed(m.is.Till))
	if e != api.OK {
		return nil, e
	}
	m.is.Till = till
	l := []api.Event{told(api.EvReplace, o.Order)}
	if o.Price == old.Price && o.Qty <= old.Qty {
		m.book.Cut(o.ID, old.Qty-o.Qty) // by nothing it is refused, and the order is as it should be
		return l, api.OK
	}
	m.book.Take(o.ID)
	return append(l, m.enter(o)...), api.OK
}

// find tells an account's order.
func (m *Market) find(c api.Command) (api.Order, api.Errno) {
	o, ok := m.book.Get(c.ID)
	if !ok || o.Account != c.Account {
		return api.Order{}, api.ErrNone
	}
	return o, api.OK
}

// fits tells why the rules do not let an order be.
func (m *Market) fits(o coming) api.Errno {
	return fault.Code(rules.Fits(m.is.Rules, m.is.Last, o.Side, o.kind, o.Price, o.Qty))
}

// admit tells a till in which a new order is held for, or why it is refused.
func (m *Market) admit(o coming) (purse.Till, api.Errno) {
	if e := m.fits(o); e != api.OK {
		return m.is.Till, e
	}
	if m.is.Phase == api.Calling && o.kind != api.Limit {
		return m.is.Till, api.ErrState
	}
	if _, there := m.book.Get(o.ID); there {
		return m.is.Till, api.ErrThere
	}
	if o.stays() && m.book.Len() >= api.MaxOrders {
		return m.is.Till, api.ErrFull
	}
	till, e := o.held(m.is.Till)
	if e != api.OK {
		return m.is.Till, e
	}
	if o.kind == api.Post && cross.Meets(m.book, o.Side, o.Price) {
		return m.is.Till, api.ErrCross
	}
	if o.kind == api.Whole && cross.Reach(m.book, m.taker(o), m.is.Rules) < o.Qty {
		return m.is.Till, api.ErrFill
	}
	return till, api.OK
}

// enter has an order that is held for come behind all that came before, and tells what comes of it.
func (m *Market) enter(o coming) []api.Event {
	o.Seq = m.is.Next
	m.is.Next++
	if m.is.Phase == api.Calling {
		m.book.Add(o.Order)
		return nil
	}
	return m.come(o)
}

// come has an order trade, and tells its trades, and who went.
func (m *Market) come(o coming) []api.Event {
	r, _ := cross.Match(m.book, m.taker(o), m.is.Rules) // what fits the rules is never refused
	var trades []trade
	for _, f := range r.Fills {
		trades = append(trades, trade{first: o.Order, second: f.Rest, role: api.TakerFee, price: f.Rest.Price, qty: f.Qty})
	}
	l := each(trades, m.trade)
	l = append(l, each(r.Drops, m.drop)...)
	o.Qty = r.Left
	switch {
	case o.Qty == 0:
	case r.Stop:
		l = append(l, m.gone(o, api.ErrSelf))
	case o.stays():
		m.book.Add(o.Order)
	default:
		l = append(l, m.gone(o, api.ErrLeft))
	}
	return l
}

// taker tells one that comes as it is matched.
func (m *Market) taker(o coming) cross.Taker {
	t := cross.Taker{Account: o.Account, Side: o.Side, Price: o.Price, Qty: o.Qty, Cash: -1}
	if o.kind == api.Market { // of all others enough is held
		t.Cash = purse.Free(m.is.Till, o.Account, api.Cash)
	}
	return t
}

// drop tells that an own order went that somebody met.
func (m *Market) drop(o api.Order) api.Event {
	return m.gone(resting(o), api.ErrSelf)
}

// gone frees what is held for an order that is not in the book, and tells that it went.
func (m *Market) gone(o coming, why api.Errno) api.Event {
	m.is.Till = o.freed(m.is.Till)
	e := told(api.EvCancel, o.Order)
	e.Code = why
	return e
}
