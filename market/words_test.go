package market_test

import (
	"slices"

	"jobber/api"
	"jobber/order"
)

// What is matched, shared, and charged, by the words of the chapters below, of small numbers.

// fitsByWords tells by chapter 9's words why an order may not be, by rules that may be.
func fitsByWords(r api.Rules, last int64, side, kind int, price, qty int64) api.Errno {
	if side != api.Buy && side != api.Sell || kind < api.Limit || kind > api.Post {
		return api.ErrArg
	}
	row := r.Ticks[0]
	for _, t := range r.Ticks {
		if t.From <= price {
			row = t
		}
	}
	if kind != api.Market && (price < 1 || price > api.MaxPrice || (price-row.From)%row.Size != 0) {
		return api.ErrTick
	}
	if qty < 1 || qty > api.MaxQty || qty%r.Lot != 0 {
		return api.ErrLot
	}
	if kind != api.Market && last > 0 && r.Band > 0 && max(price-last, last-price)*api.Million > last*r.Band {
		return api.ErrBand
	}
	return api.OK
}

// feeByWords tells by chapter 8's words what a trade costs.
func feeByWords(r api.Rules, volume, notional int64, role int) int64 {
	var row api.Tier
	for _, t := range r.Fees {
		if t.From <= volume {
			row = t
		}
	}
	parts := row.Maker
	if role == api.TakerFee {
		parts = row.Taker
	}
	fee, rest := notional*parts/api.Million, notional*parts%api.Million
	if r.Round == api.Up && rest > 0 || r.Round == api.Even && (2*rest > api.Million || 2*rest == api.Million && fee%2 == 1) {
		fee++
	}
	return fee
}

// shareByWords tells by chapter 16's words what each of some gets of a quantity.
func shareByWords(mode int, l []api.Order, qty, lot int64) []int64 {
	gets, total := make([]int64, len(l)), int64(0)
	for _, o := range l {
		total += o.Qty / lot
	}
	all := min(qty/lot, total)
	left := all
	if mode == api.ByShare && total > 0 {
		for i, o := range l {
			gets[i] = all * (o.Qty / lot) / total
			left -= gets[i]
		}
	}
	for i, o := range l {
		more := min(left, o.Qty/lot-gets[i])
		gets[i], left = gets[i]+more, left-more
	}
	for i := range gets {
		gets[i] *= lot
	}
	return gets
}

// levelOf tells all orders of a side that stand at its best price, in order.
func levelOf(l []api.Order, side int) []api.Order {
	var level []api.Order
	for _, o := range order.Sorted(l) {
		if o.Side == side && (len(level) == 0 || o.Price == level[0].Price) {
			level = append(level, o)
		}
	}
	return level
}

// wants tells whether one of a side, at a price (0: any), would trade at another one.
func wants(side int, price, at int64) bool {
	return price == 0 || side == api.Buy && at <= price || side == api.Sell && at >= price
}

// matched is what came of an order that came.
type matched struct {
	rests []api.Order // those that traded, as they were
	gets  []int64
	drops []api.Order
	left  int64
	stop  bool
	book  []api.Order
}

// matchByWords tells by chapter 18's words what comes of an order; it may spend cash, if that is not below 0.
func matchByWords(l []api.Order, o api.Order, cash int64, r api.Rules) matched {
	res := matched{left: o.Qty, book: slices.Clone(l)}
	limited := o.Side == api.Buy && cash >= 0
	for res.left > 0 {
		level := levelOf(res.book, 3-o.Side)
		if len(level) == 0 || !wants(o.Side, o.Price, level[0].Price) {
			break
		}
		run := level
		if i := slices.IndexFunc(level, func(w api.Order) bool { return w.Account == o.Account && r.Self != api.Allow }); i >= 0 {
			run = level[:i]
		}
		qty := res.left
		if limited {
			qty = min(qty, cash/level[0].Price)
		}
		waits := false
		for i, n := range shareByWords(r.Priority, run, qty, r.Lot) {
			waits = waits || n < run[i].Qty
			if n > 0 {
				res.rests, res.gets = append(res.rests, run[i]), append(res.gets, n)
				res.left, cash = res.left-n, cash-n*run[i].Price
				res.book = lessened(res.book, run[i].ID, n)
			}
		}
		if waits {
			break
		}
		if res.left > 0 && len(run) < len(level) {
			own := level[len(run)]
			if r.Self == api.DropOld || r.Self == api.DropBoth {
				res.drops = append(res.drops, own)
				res.book = lessened(res.book, own.ID, own.Qty)
			}
			if r.Self == api.DropNew || r.Self == api.DropBoth {
				res.stop = true
				break
			}
		}
	}
	return res
}

// lessened tells orders of which one is less by n; with nothing left it is gone.
func lessened(l []api.Order, id uint64, n int64) []api.Order {
	var less []api.Order
	for _, o := range l {
		if o.ID == id {
			o.Qty -= n
		}
		if o.Qty > 0 {
			less = append(less, o)
		}
	}
	return less
}

// priceByWords tells by chapter 19's words the price of a call, and what is traded there; l is a Book.
func priceByWords(l []api.Order, last int64) (price, volume int64) {
	var over, way int64
	for _, o := range l {
		p := o.Price
		wanted := [3]int64{}
		for _, w := range l {
			if wants(w.Side, w.Price, p) {
				wanted[w.Side] += w.Qty
			}
		}
		v, left, far := min(wanted[api.Buy], wanted[api.Sell]), max(wanted[1]-wanted[2], wanted[2]-wanted[1]), int64(0)
		if last > 0 {
			far = max(p-last, last-p)
		}
		if v > 0 && slices.Compare([]int64{-v, left, far, p}, []int64{-volume, over, way, price}) < 0 {
			price, volume, over, way = p, v, left, far
		}
	}
	return price, volume
}

// getsByWords tells by chapter 19's words what each of a side gets in a call.
func getsByWords(l []api.Order, side int, price, volume int64, r api.Rules) []int64 {
	gets, left := make([]int64, len(l)), slices.Clone(l)
	for len(left) > 0 {
		level := levelOf(left, side)
		if len(level) == 0 || !wants(side, level[0].Price, price) {
			break
		}
		for i, n := range shareByWords(r.Priority, level, volume, r.Lot) {
			gets[slices.Index(l, level[i])] = n
			volume -= n
			left = lessened(left, level[i].ID, level[i].Qty)
		}
	}
	return gets
}
