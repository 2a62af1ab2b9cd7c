package market

import (
	"jobber/api"
	"jobber/order"
	"jobber/purse"
)

// coming is an order that comes: its Price is 0 of a Market, its Qty is what is left of it.
type coming struct {
	api.Order
	kind int
}

// resting tells one that rests as one that comes: whatever it came as, it is a Limit now.
func resting(o api.Order) coming {
	return coming{Order: o, kind: api.Limit}
}

// stays tells whether what is left of it may rest.
func (o coming) stays() bool {
	return o.kind == api.Limit || o.kind == api.Post
}

// hold tells what is held for it.
func (o coming) hold() (asset int, n int64, e api.Errno) {
	switch {
	case o.kind != api.Market:
		return order.Hold(o.Order)
	case o.Side == api.Sell:
		return api.Stock, o.Qty, api.OK
	}
	return api.Cash, 0, api.OK
}

// held tells a till in which it is held for.
func (o coming) held(t purse.Till) (purse.Till, api.Errno) {
	asset, n, e := o.hold()
	if e != api.OK {
		return t, e
	}
	return purse.Hold(t, o.Account, asset, n)
}

// freed tells a till in which it is held for no more.
func (o coming) freed(t purse.Till) purse.Till {
	asset, n, _ := o.hold() // it was told when it was held
	t, _ = purse.Release(t, o.Account, asset, n)
	return t
}

// told tells an event of an order.
func told(kind int, o api.Order) api.Event {
	return api.Event{Kind: kind, Account: o.Account, ID: o.ID, Side: o.Side, Price: o.Price, Qty: o.Qty}
}
