package market_test

import (
	"slices"

	"jobber/api"
	"jobber/market"
	"jobber/order"
	"jobber/purse"
)

// world is an exchange by the chapter's words, of small numbers; what is held is told by its orders alone.
type world struct {
	rules                      api.Rules
	phase                      int
	last                       int64
	next                       uint64
	cash, stock, owed, volumes [api.MaxAccounts]int64
	house                      int64
	orders                     []api.Order
}

// fresh tells a world with nothing.
func fresh(r api.Rules) *world {
	return &world{rules: r, phase: api.Trading, next: 1}
}

// holds tells what orders hold for an account.
func (w *world) holds(account int) (cash, stock int64) {
	for _, o := range w.orders {
		if o.Account == account && o.Side == api.Buy {
			cash += o.Price * o.Qty
		} else if o.Account == account {
			stock += o.Qty
		}
	}
	return cash, stock
}

// state tells a world's state.
func (w *world) state() market.State {
	s := market.State{Rules: w.rules, Phase: w.phase, Last: w.last, Next: w.next, Orders: order.Sorted(w.orders)}
	s.Till.House = w.house
	for i := range s.Till.Purses {
		cash, stock := w.holds(i)
		s.Till.Purses[i] = purse.Purse{
			Cash: w.cash[i], Stock: w.stock[i], HeldCash: cash, HeldStock: stock, Owed: w.owed[i], Volume: w.volumes[i],
		}
	}
	return s
}

// reject tells that a command is refused.
func reject(c api.Command, e api.Errno) []api.Event {
	return []api.Event{{Kind: api.EvReject, Account: c.Account, ID: c.ID, Code: e}}
}

// apply does a command.
func (w *world) apply(c api.Command) []api.Event {
	if c.Kind < 1 || c.Kind > 8 || c.Kind != api.CmdHalt && c.Kind != api.CmdUncross && (c.Account < 0 || c.Account >= api.MaxAccounts) {
		return reject(c, api.ErrArg)
	}
	switch c.Kind {
	case api.CmdDeposit, api.CmdWithdraw:
		return w.move(c)
	case api.CmdPlace:
		return w.place(c)
	case api.CmdCancel, api.CmdReplace:
		at := slices.IndexFunc(w.orders, func(o api.Order) bool { return o.ID == c.ID && o.Account == c.Account })
		if at < 0 {
			return reject(c, api.ErrNone)
		}
		if c.Kind == api.CmdReplace {
			return w.replace(c, at)
		}
		o := w.orders[at]
		w.orders = slices.Delete(w.orders, at, at+1)
		return []api.Event{gone(o, o.Qty, api.OK)}
	case api.CmdSettle:
		return w.settle(c)
	case api.CmdHalt:
		if w.phase == api.Calling {
			return reject(c, api.ErrState)
		}
		w.phase = api.Calling
		return []api.Event{{Kind: api.EvPhase, Side: api.Calling}}
	}
	return w.uncross(c)
}

// move puts in, and takes out.
func (w *world) move(c api.Command) []api.Event {
	cash, stock := w.holds(max(c.Account, 0))
	has, free := &w.cash, w.cash[c.Account]-cash-w.owed[c.Account]
	if c.Asset == api.Stock {
		has, free = &w.stock, w.stock[c.Account]-stock
	}
	n := c.Qty
	switch {
	case c.Asset != api.Cash && c.Asset != api.Stock, c.Qty < 1:
		return reject(c, api.ErrArg)
	case c.Kind == api.CmdWithdraw && c.Qty > free:
		return reject(c, api.ErrFunds)
	case c.Kind == api.CmdWithdraw:
		n = -n
	}
	has[c.Account] += n
	return []api.Event{{Kind: api.EvMove, Account: c.Account, Side: c.Asset, Qty: n}}
}

// settle pays what is owed.
func (w *world) settle(c api.Command) []api.Event {
	held, _ := w.holds(c.Account)
	n := min(w.owed[c.Account], w.cash[c.Account]-held)
	if w.owed[c.Account] == 0 {
		return reject(c, api.ErrNone)
	}
	if n == 0 {
		return reject(c, api.ErrFunds)
	}
	w.owed[c.Account] -= n
	w.cash[c.Account] -= n
	w.house += n
	return []api.Event{{Kind: api.EvMove, Account: c.Account, Side: api.Cash, Qty: -n, Fee: n}}
}

// lacks tells whether what would be held for an order is not there.
func (w *world) lacks(o api.Order) bool {
	cash, stock := w.holds(o.Account)
	if o.Side == api.Buy {
		return o.Price*o.Qty > w.cash[o.Account]-cash
	}
	return o.Qty > w.stock[o.Account]-stock
}

// place places an order.
func (w *world) place(c api.Command) []api.Event {
	o := api.Order{ID: c.ID, Account: c.Account, Side: c.Side, Price: c.Price, Qty: c.Qty}
	if c.Type == api.Market {
		o.Price = 0
	}
	if e := fitsByWords(w.rules, w.last, c.Side, c.Type, c.Price, c.Qty); e != api.OK {
		return reject(c, e)
	}
	other := levelOf(w.orders, 3-c.Side)
	switch {
	case w.phase == api.Calling && c.Type != api.Limit:
		return reject(c, api.ErrState)
	case slices.ContainsFunc(w.orders, func(r api.Order) bool { return r.ID == c.ID }):
		return reject(c, api.ErrThere)
	case (c.Type == api.Limit || c.Type == api.Post) && len(w.orders) == api.MaxOrders:
		return reject(c, api.ErrFull)
	case w.lacks(o):
		return reject(c, api.ErrFunds)
	case c.Type == api.Post && len(other) > 0 && wants(c.Side, c.Price, other[0].Price):
		return reject(c, api.ErrCross)
	case c.Type == api.Whole && matchByWords(w.orders, o, -1, w.rules).left > 0:
		return reject(c, api.ErrFill)
	}
	accept := api.Event{Kind: api.EvAccept, Account: o.Account, ID: o.ID, Side: o.Side, Price: o.Price, Qty: o.Qty}
	return append([]api.Event{accept}, w.enter(o, c.Type)...)
}

// replace gives the order at a place of the list another price and quantity.
func (w *world) replace(c api.Command, at int) []api.Event {
	old := w.orders[at]
	o := old
	o.Price, o.Qty = c.Price, c.Qty
	if e := fitsByWords(w.rules, w.last, o.Side, api.Limit, o.Price, o.Qty); e != api.OK {
		return reject(c, e)
	}
	without := *w
	without.orders = slices.Delete(slices.Clone(w.orders), at, at+1)
	if without.lacks(o) {
		return reject(c, api.ErrFunds)
	}
	l := []api.Event{{Kind: api.EvReplace, Account: o.Account, ID: o.ID, Side: o.Side, Price: o.Price, Qty: o.Qty}}
	if o.Price == old.Price && o.Qty <= old.Qty {
		w.orders[at].Qty = o.Qty
		return l
	}
	w.orders = without.orders
	return append(l, w.enter(o, api.Limit)...)
}

// gone tells that an order went, with so much left.
func gone(o api.Order, left int64, why api.Errno) api.Event {
	return api.Event{Kind: api.EvCancel, Account: o.Account, ID: o.ID, Side: o.Side, Price: o.Price, Qty: left, Code: why}
}

// enter has an order come, or rest.
func (w *world) enter(o api.Order, kind int) []api.Event {
	o.Seq = w.next
	w.next++
	if w.phase == api.Calling {
		w.orders = append(w.orders, o)
		return nil
	}
	cash := int64(-1)
	if held, _ := w.holds(o.Account); kind == api.Market {
		cash = w.cash[o.Account] - held
	}
	var l []api.Event
	r := matchByWords(w.orders, o, cash, w.rules)
	w.orders = r.book
	for i, rest := range r.rests {
		l = append(l, w.trade(o, rest, api.TakerFee, rest.Price, r.gets[i]))
	}
	for _, own := range r.drops {
		l = append(l, gone(own, own.Qty, api.ErrSelf))
	}
	switch {
	case r.left == 0:
	case r.stop:
		l = append(l, gone(o, r.left, api.ErrSelf))
	case kind == api.Limit || kind == api.Post:
		o.Qty = r.left
		w.orders = append(w.orders, o)
	default:
		l = append(l, gone(o, r.left, api.ErrLeft))
	}
	return l
}

// trade does a trade of two orders, of which the second one is a maker.
func (w *world) trade(o, rest api.Order, role int, price, qty int64) api.Event {
	cash := price * qty
	fee := feeByWords(w.rules, w.volumes[o.Account], cash, role)
	fee2 := feeByWords(w.rules, w.volumes[rest.Account], cash, api.MakerFee)
	buyer, seller := o.Account, rest.Account
	if o.Side == api.Sell {
		buyer, seller = seller, buyer
	}
	w.cash[buyer] -= cash
	w.cash[seller] += cash
	w.stock[buyer] += qty
	w.stock[seller] -= qty
	w.owed[o.Account] += fee
	w.owed[rest.Account] += fee2
	w.volumes[buyer] += cash
	w.volumes[seller] += cash
	w.last = price
	return api.Event{
		Kind: api.EvTrade, Account: o.Account, ID: o.ID, Other: rest.ID,
		Side: o.Side, Price: price, Qty: qty, Fee: fee, Fee2: fee2,
	}
}

// uncross ends a call.
func (w *world) uncross(c api.Command) []api.Event {
	if w.phase != api.Calling {
		return reject(c, api.ErrState)
	}
	all := order.Sorted(w.orders)
	price, volume := priceByWords(all, w.last)
	buys := getsByWords(all, api.Buy, price, volume, w.rules)
	sells := getsByWords(all, api.Sell, price, volume, w.rules)
	var l []api.Event
	something := func(n int64) bool { return n > 0 }
	for {
		b, s := slices.IndexFunc(buys, something), slices.IndexFunc(sells, something)
		if b < 0 || s < 0 {
			break
		}
		n := min(buys[b], sells[s])
		buys[b], sells[s] = buys[b]-n, sells[s]-n
		w.orders = lessened(lessened(w.orders, all[b].ID, n), all[s].ID, n)
		l = append(l, w.trade(all[b], all[s], api.MakerFee, price, n))
	}
	w.phase = api.Trading
	return append(l, api.Event{Kind: api.EvPhase, Side: api.Trading})
}
