package call

import (
	"jobber/api"
	"jobber/order"
)

// candidate is a price, and what would come of it.
type candidate struct {
	price  int64
	volume int64
	over   int64 // what is left over
	way    int64 // to the last price; 0, where there is none
}

// at tells what would come of a price.
func at(l []api.Order, price, last int64) candidate {
	wanted := map[int]int64{} // by the sides
	for _, o := range l {
		if wants(o, price) {
			wanted[o.Side] += o.Qty
		}
	}
	demand, supply := wanted[api.Buy], wanted[api.Sell]
	c := candidate{price: price, volume: min(demand, supply), over: max(demand-supply, supply-demand)}
	if last > 0 {
		c.way = max(price-last, last-price) // there is room: both are above 0
	}
	return c
}

// wants tells whether one wants to trade at a price.
func wants(o api.Order, price int64) bool {
	return order.Crosses(o.Side, o.Price, price)
}
