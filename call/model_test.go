package call_test

import (
	"math/big"
	"math/rand"
	"slices"

	"jobber/api"
	"jobber/call"
	"jobber/order"
	"jobber/share"
)

// buyer tells one who buys.
func buyer(id uint64, price, qty int64) api.Order {
	return api.Order{ID: id, Account: int(id % api.MaxAccounts), Side: api.Buy, Price: price, Qty: qty, Seq: id}
}

// seller tells one who sells.
func seller(id uint64, price, qty int64) api.Order {
	o := buyer(id, price, qty)
	o.Side = api.Sell
	return o
}

// book tells orders as a Book.
func book(l ...api.Order) []api.Order {
	return order.Sorted(l)
}

// willing tells by the chapter's words whether one wants a price.
func willing(o api.Order, price int64) bool {
	if o.Side == api.Buy {
		return o.Price >= price
	}
	return o.Price <= price
}

// traded tells what would be traded at a price, and what would be left over.
func traded(l []api.Order, price int64) (volume, over int64) {
	var demand, supply int64
	for _, o := range l {
		switch {
		case willing(o, price) && o.Side == api.Buy:
			demand += o.Qty
		case willing(o, price):
			supply += o.Qty
		}
	}
	if demand < supply {
		return demand, supply - demand
	}
	return supply, demand - supply
}

// fewest tells those prices for which a number is the least one.
func fewest(prices []int64, number func(price int64) *big.Int) []int64 {
	var least []int64
	for _, p := range prices {
		by := -1
		if len(least) > 0 {
			by = number(p).Cmp(number(least[0]))
		}
		if by < 0 {
			least = nil
		}
		if by <= 0 {
			least = append(least, p)
		}
	}
	return least
}

// priceByWords tells by the chapter's words, one behind the other, the price and the volume; l is a Book.
func priceByWords(l []api.Order, last int64) (price, volume int64) {
	var prices []int64
	for _, o := range l {
		prices = append(prices, o.Price)
	}
	prices = fewest(prices, func(p int64) *big.Int {
		volume, _ := traded(l, p)
		return big.NewInt(-volume)
	})
	prices = fewest(prices, func(p int64) *big.Int {
		_, over := traded(l, p)
		return big.NewInt(over)
	})
	if last > 0 {
		prices = fewest(prices, func(p int64) *big.Int {
			way := new(big.Int).Sub(big.NewInt(p), big.NewInt(last))
			return way.Abs(way)
		})
	}
	if len(prices) == 0 {
		return 0, 0
	}
	price = slices.Min(prices)
	if volume, _ = traded(l, price); volume == 0 {
		return 0, 0
	}
	return price, volume
}

// sideByWords tells by the chapter's words what each of a side gets, of arguments that may be.
func sideByWords(l []api.Order, side int, price, volume int64, mode int, lot int64) []int64 {
	gets := make([]int64, len(l))
	levels := map[int64][]int{} // places in l, by their prices
	for i, o := range l {
		if o.Side == side && willing(o, price) {
			levels[o.Price] = append(levels[o.Price], i)
		}
	}
	for len(levels) > 0 {
		best := int64(0)
		for p := range levels {
			if best == 0 || side == api.Buy && p > best || side == api.Sell && p < best {
				best = p
			}
		}
		var those []api.Order
		for _, i := range levels[best] {
			those = append(those, l[i])
		}
		for j, n := range share.Share(mode, those, volume, lot) {
			gets[levels[best][j]] = n
			volume -= n
		}
		delete(levels, best)
	}
	return gets
}

// dealsByWords tells by the chapter's words who trades with whom, of arguments that may be.
func dealsByWords(l []api.Order, price, volume int64, mode int, lot int64) []call.Deal {
	var deals []call.Deal
	buys := sideByWords(l, api.Buy, price, volume, mode, lot)
	sells := sideByWords(l, api.Sell, price, volume, mode, lot)
	something := func(n int64) bool { return n > 0 }
	for {
		b, s := slices.IndexFunc(buys, something), slices.IndexFunc(sells, something)
		if b < 0 || s < 0 {
			return deals
		}
		n := buys[b]
		if sells[s] < n {
			n = sells[s]
		}
		deals = append(deals, call.Deal{Buy: l[b], Sell: l[s], Qty: n})
		buys[b], sells[s] = buys[b]-n, sells[s]-n
	}
}

// someBook tells a Book that chance chooses, of few prices that lie close, whose quantities are numbers of lots.
func someBook(src *rand.Rand, lot int64) []api.Order {
	var l []api.Order
	low, prices := 1+src.Int63n(20), 1+src.Int63n(8)
	if src.Intn(8) == 0 {
		low = api.MaxPrice - prices
	}
	for _, id := range src.Perm(src.Intn(24)) {
		l = append(l, api.Order{
			ID: uint64(id), Account: src.Intn(api.MaxAccounts), Side: 1 + src.Intn(2),
			Price: low + src.Int63n(prices), Qty: lot * (1 + src.Int63n(6)), Seq: uint64(src.Intn(12)),
		})
	}
	return order.Sorted(l)
}

// someLast tells a last price that chance chooses: none, close to prices of a Book, or far off.
func someLast(src *rand.Rand) int64 {
	switch src.Intn(4) {
	case 0:
		return -src.Int63n(3)
	case 1:
		return src.Int63()
	}
	return 1 + src.Int63n(30)
}

// noBooks tells lists that are no Book, though what is in them would trade.
func noBooks() [][]api.Order {
	good := book(buyer(1, 12, 5), buyer(2, 11, 5), seller(3, 9, 4), seller(4, 10, 4))
	spoilt := func(change func(l []api.Order)) []api.Order {
		l := slices.Clone(good)
		change(l)
		return l
	}
	var many []api.Order
	for i := range uint64(api.MaxOrders + 1) {
		many = append(many, seller(i, 10, 1))
	}
	many[0] = buyer(0, 10, 1)
	return [][]api.Order{
		spoilt(func(l []api.Order) { l[0], l[1] = l[1], l[0] }),
		spoilt(func(l []api.Order) { l[1], l[2] = l[2], l[1] }),
		spoilt(func(l []api.Order) { l[2], l[3] = l[3], l[2] }),
		spoilt(func(l []api.Order) { l[3].ID = l[0].ID }),
		spoilt(func(l []api.Order) { l[3].Side = 3 }),
		spoilt(func(l []api.Order) { l[0].Side = 0 }),
		spoilt(func(l []api.Order) { l[0].Price = api.MaxPrice + 1 }),
		spoilt(func(l []api.Order) { l[2].Price = 0 }),
		spoilt(func(l []api.Order) { l[0].Qty = 0 }),
		spoilt(func(l []api.Order) { l[0].Qty = -5 }),
		spoilt(func(l []api.Order) { l[1].Qty = api.MaxQty + 1 }),
		spoilt(func(l []api.Order) { l[1].Account = api.MaxAccounts }),
		spoilt(func(l []api.Order) { l[1].Account = -1 }),
		many,
	}
}
