package cross_test

import (
	"math/big"
	"math/rand"
	"slices"
	"testing"

	"jobber/api"
	"jobber/cross"
	"jobber/layout"
	"jobber/order"
)

// floor tells a times b by c, rounded down, of numbers from 0 on.
func floor(a, b, c int64) int64 {
	n := new(big.Int).Mul(big.NewInt(a), big.NewInt(b))
	return n.Div(n, big.NewInt(c)).Int64()
}

// shared tells by chapter 16's words what each of a run gets of qty.
func shared(mode int, run []api.Order, qty, lot int64) []int64 {
	gets, total := make([]int64, len(run)), int64(0)
	for _, o := range run {
		total += o.Qty / lot
	}
	all := min(qty/lot, total)
	left := all
	if mode == api.ByShare && total > 0 {
		for i, o := range run {
			gets[i] = floor(all, o.Qty/lot, total)
			left -= gets[i]
		}
	}
	for i, o := range run {
		more := min(left, o.Qty/lot-gets[i])
		gets[i], left = gets[i]+more, left-more
	}
	for i := range gets {
		gets[i] *= lot
	}
	return gets
}

// waiting tells of orders those that wait at the best price of a side.
func waiting(l []api.Order, side int) []api.Order {
	var level []api.Order
	for _, o := range order.Sorted(l) {
		if o.Side == side && (len(level) == 0 || o.Price == level[0].Price) {
			level = append(level, o)
		}
	}
	return level
}

// wouldTrade tells by chapter 12's words whether a taker would trade at a price.
func wouldTrade(t cross.Taker, price int64) bool {
	if t.Price == 0 {
		return true
	}
	if t.Side == api.Buy {
		return price <= t.Price
	}
	return price >= t.Price
}

// byWords tells by the chapter's words what is matched, and what waits behind it; l is a Book, and all else may be.
func byWords(l []api.Order, t cross.Taker, r api.Rules) (cross.Result, []api.Order) {
	var res cross.Result
	left, cash, l := t.Qty, t.Cash, slices.Clone(l)
	at := func(o api.Order) int { return slices.Index(l, o) }
	for left > 0 {
		level := waiting(l, 3-t.Side)
		if len(level) == 0 || !wouldTrade(t, level[0].Price) {
			break
		}
		price, run := level[0].Price, level
		isOwn := func(o api.Order) bool { return o.Account == t.Account && r.Self != api.Allow }
		if i := slices.IndexFunc(level, isOwn); i >= 0 {
			run = level[:i]
		}
		qty := left
		if t.Side == api.Buy && t.Cash >= 0 {
			qty = min(qty, cash/price)
		}
		somethingLeft := false
		for i, n := range shared(r.Priority, run, qty, r.Lot) {
			rest := run[i]
			somethingLeft = somethingLeft || n < rest.Qty
			if n == 0 {
				continue
			}
			res.Fills = append(res.Fills, cross.Fill{Rest: rest, Qty: n})
			left, cash = left-n, cash-n*price
			if l[at(rest)].Qty -= n; n == rest.Qty {
				l = slices.DeleteFunc(l, func(o api.Order) bool { return o.ID == rest.ID })
			}
		}
		if somethingLeft {
			break
		}
		if left > 0 && len(run) < len(level) {
			first := level[len(run)]
			if r.Self == api.DropOld || r.Self == api.DropBoth {
				res.Drops = append(res.Drops, first)
				l = slices.Delete(l, at(first), at(first)+1)
			}
			if r.Self == api.DropNew || r.Self == api.DropBoth {
				res.Stop = true
				break
			}
		}
	}
	res.Left = left
	return res, l
}

// kinds are both layouts.
func kinds() []int {
	return []int{api.Ladder, api.Grove}
}

// built tells a book of orders, which it sorts.
func built(t *testing.T, kind int, l ...api.Order) *layout.Book {
	t.Helper()
	b, e := layout.Build(kind, order.Sorted(l))
	if e != api.OK {
		t.Fatal("no book", int(e), l)
	}
	return b
}

// same tells whether two results are the same.
func same(a, b cross.Result) bool {
	return slices.Equal(a.Fills, b.Fills) && slices.Equal(a.Drops, b.Drops) && a.Left == b.Left && a.Stop == b.Stop
}

// rules tell rules of which only what is asked of them is there.
func rules(lot int64, priority, self int) api.Rules {
	return api.Rules{Lot: lot, Priority: priority, Self: self}
}

// chosen is what chance chose.
type chosen struct {
	book  []api.Order
	taker cross.Taker
	rules api.Rules
}

// choose chooses a book of few prices and accounts, one that comes, and rules; by lots, or with less than a lot left over.
func choose(src *rand.Rand) chosen {
	r := rules(1+src.Int63n(4), 1+src.Intn(2), 1+src.Intn(4))
	whole, prices, accounts := src.Intn(3) > 0, 1+src.Int63n(6), 1+src.Intn(5)
	qty := func(most int64) int64 {
		n := 1 + src.Int63n(most)
		if whole {
			n *= r.Lot
		}
		return n
	}
	var l []api.Order
	for _, id := range src.Perm(src.Intn(20)) {
		l = append(l, api.Order{
			ID: uint64(id), Account: src.Intn(accounts), Side: 1 + src.Intn(2),
			Price: 5 + src.Int63n(prices), Qty: qty(9), Seq: uint64(src.Intn(12)),
		})
	}
	t := cross.Taker{Account: src.Intn(accounts + 1), Side: 1 + src.Intn(2), Price: 4 + src.Int63n(prices+2), Qty: qty(40), Cash: -1 - src.Int63n(3)}
	if src.Intn(3) == 0 {
		t.Price = 0
	}
	if src.Intn(2) == 0 {
		t.Cash = src.Int63n(1 + src.Int63n(600))
	}
	return chosen{order.Sorted(l), t, r}
}
