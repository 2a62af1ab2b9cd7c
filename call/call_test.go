package call_test

import (
	"math"
	"math/rand"
	"slices"
	"testing"

	"jobber/api"
	"jobber/call"
	"jobber/order"
)

// example tells the chapter's Book.
func example() []api.Order {
	return book(buyer(1, 12, 5), buyer(2, 10, 5), seller(3, 9, 4), seller(4, 11, 4))
}

// wildNumbers tells numbers that are neither a lot nor a volume.
func wildNumbers() []int64 {
	return []int64{0, -1, -5, math.MinInt64, math.MinInt64 + 1, math.MaxInt64, math.MaxInt64 - 1, api.MaxMoney + 1}
}

// wildModes tells numbers that are no priority.
func wildModes() []int {
	return []int{0, -1, 3, 4, 1<<32 + 1, math.MinInt, math.MaxInt}
}

func TestP19_1TheChaptersExample(t *testing.T) {
	if p, v := call.Price(example(), 0); p != 11 || v != 5 {
		t.Error(p, v)
	}
	if p, v := call.Price(example(), 9); p != 11 || v != 5 { // the last price counts for less than the volume
		t.Error(p, v)
	}
}

func TestP19_1PriceByHand(t *testing.T) {
	wide := book(buyer(1, 20, 5), seller(2, 10, 5))
	for i, c := range []struct {
		l                   []api.Order
		last, price, volume int64
	}{
		{nil, 10, 0, 0},
		{[]api.Order{}, 0, 0, 0},
		{book(buyer(1, 10, 5)), 10, 0, 0},
		{book(seller(1, 10, 5)), 10, 0, 0},
		{book(buyer(1, 10, 5), buyer(2, 11, 5)), 10, 0, 0},
		{book(buyer(1, 10, 5), seller(2, 11, 5)), 10, 0, 0},
		{book(buyer(1, 10, 5), seller(2, 10, 7)), 0, 10, 5},
		{book(buyer(1, 1, 1), seller(2, 1, 1)), 0, 1, 1},
		{book(buyer(1, api.MaxPrice, api.MaxQty), seller(2, api.MaxPrice, api.MaxQty)), 1, api.MaxPrice, api.MaxQty},

		// of both ends the one that is nearest to the last price; as near, or without one, the least
		{wide, 0, 10, 5},
		{wide, -1, 10, 5},
		{wide, -19, 10, 5},
		{wide, math.MinInt64, 10, 5},
		{wide, 1, 10, 5},
		{wide, 14, 10, 5},
		{wide, 15, 10, 5},
		{wide, 16, 20, 5},
		{wide, 20, 20, 5},
		{wide, 21, 20, 5},
		{wide, math.MaxInt64, 20, 5},

		// least left over, ahead of the last price: at 10 buyers want 3 more, at 12 nobody does
		{book(buyer(1, 12, 5), buyer(2, 10, 3), seller(3, 10, 5)), 10, 12, 5},
		{book(buyer(1, 12, 5), buyer(2, 11, 3), seller(3, 10, 5)), 12, 12, 5},
		{book(buyer(1, 12, 5), seller(2, 10, 5), seller(3, 12, 1)), 12, 10, 5},
		{book(buyer(1, 12, 5), seller(2, 10, 5), seller(3, 11, 5)), 11, 10, 5},

		// left over counts alike on either side: at 10 buyers want 3 more, at 12 sellers do
		{book(buyer(1, 12, 5), buyer(2, 10, 3), seller(3, 10, 5), seller(4, 12, 3)), 0, 10, 5},
		{book(buyer(1, 12, 5), buyer(2, 10, 3), seller(3, 10, 5), seller(4, 12, 3)), 12, 12, 5},
		{book(buyer(1, 12, 5), buyer(2, 10, 3), seller(3, 10, 5), seller(4, 12, 2)), 10, 12, 5},
		{book(buyer(1, 12, 5), buyer(2, 10, 2), seller(3, 10, 5), seller(4, 12, 3)), 12, 10, 5},
		{book(buyer(1, 12, 5), buyer(2, 10, 3), seller(3, 9, 5), seller(4, 11, 3)), 0, 9, 5},
		{book(buyer(1, 12, 5), buyer(2, 10, 3), seller(3, 9, 5), seller(4, 11, 3)), 11, 11, 5},

		// most is traded, be more left over, and be it far from the last price
		{book(buyer(1, 12, 6), buyer(2, 10, 90), seller(3, 9, 7)), 12, 10, 7},
		{book(buyer(1, 12, 6), buyer(2, 10, 90), seller(3, 9, 6)), 9, 12, 6},
	} {
		if !order.Book(c.l) {
			t.Error(i, "no Book")
		}
		wantPrice, wantVolume := priceByWords(c.l, c.last)
		if c.price != wantPrice || c.volume != wantVolume {
			t.Error(i, "by the words", wantPrice, wantVolume, "not", c.price, c.volume)
		}
		if p, v := call.Price(c.l, c.last); p != c.price || v != c.volume {
			t.Error(i, p, v, "not", c.price, c.volume)
		}
	}
}

func TestP19_1PriceOfAllThatABookHas(t *testing.T) {
	var l []api.Order
	for i := range uint64(api.MaxOrders) {
		if i%2 == 0 {
			l = append(l, buyer(i, api.MaxPrice, api.MaxQty))
		} else {
			l = append(l, seller(i, 1, api.MaxQty))
		}
	}
	if p, v := call.Price(book(l...), math.MaxInt64); p != api.MaxPrice || v != api.MaxOrders/2*api.MaxQty {
		t.Error(p, v)
	}
	if p, v := call.Price(book(l...), 1<<39); p != 1 || v != api.MaxOrders/2*api.MaxQty {
		t.Error(p, v)
	}
}

func TestP19_1PriceByItsWords(t *testing.T) {
	src := rand.New(rand.NewSource(191))
	some := 0
	for range 40000 {
		l, last := someBook(src, 1+src.Int63n(3)), someLast(src)
		price, volume := priceByWords(l, last)
		if p, v := call.Price(l, last); p != price || v != volume {
			t.Fatal(l, last, p, v, "not", price, volume)
		}
		if volume > 0 {
			some++
		}
	}
	if some < 10000 {
		t.Error("too few trade", some)
	}
}

func TestP19NoBook(t *testing.T) {
	for i, l := range noBooks() {
		if p, v := call.Price(l, 10); p != 0 || v != 0 {
			t.Error(i, p, v)
		}
		for _, mode := range []int{api.ByTime, api.ByShare} {
			for side := range 4 {
				if gets := call.Side(l, side, 10, 5, mode, 1); len(gets) != 0 {
					t.Error(i, side, gets)
				}
			}
			if deals := call.Deals(l, 10, 5, mode, 1); len(deals) != 0 {
				t.Error(i, deals)
			}
		}
	}
	for i, l := range [][]api.Order{nil, {}} { // these are Books
		if gets := call.Side(l, api.Buy, 10, 5, api.ByTime, 1); len(gets) != 0 {
			t.Error(i, gets)
		}
		if deals := call.Deals(l, 10, 5, api.ByTime, 1); len(deals) != 0 {
			t.Error(i, deals)
		}
	}
}

func TestP19_2SideByHand(t *testing.T) {
	l := book(
		buyer(1, 12, 4), buyer(2, 11, 6), buyer(3, 11, 3), buyer(4, 11, 3), buyer(5, 10, 9),
		seller(6, 9, 5), seller(7, 11, 2), seller(8, 11, 8), seller(9, 12, 7),
	)
	for i, c := range []struct {
		side          int
		price, volume int64
		lot           int64
		time, shared  []int64
	}{
		{api.Buy, 11, 1, 1, []int64{1, 0, 0, 0, 0, 0, 0, 0, 0}, []int64{1, 0, 0, 0, 0, 0, 0, 0, 0}},
		{api.Buy, 11, 4, 1, []int64{4, 0, 0, 0, 0, 0, 0, 0, 0}, []int64{4, 0, 0, 0, 0, 0, 0, 0, 0}},
		{api.Buy, 11, 10, 1, []int64{4, 6, 0, 0, 0, 0, 0, 0, 0}, []int64{4, 4, 1, 1, 0, 0, 0, 0, 0}},
		{api.Buy, 11, 16, 1, []int64{4, 6, 3, 3, 0, 0, 0, 0, 0}, []int64{4, 6, 3, 3, 0, 0, 0, 0, 0}},
		{api.Buy, 11, 17, 1, []int64{4, 6, 3, 3, 0, 0, 0, 0, 0}, []int64{4, 6, 3, 3, 0, 0, 0, 0, 0}}, // the fifth one does not want 11
		{api.Buy, 10, 17, 1, []int64{4, 6, 3, 3, 1, 0, 0, 0, 0}, []int64{4, 6, 3, 3, 1, 0, 0, 0, 0}},
		{api.Buy, 1, api.MaxMoney, 1, []int64{4, 6, 3, 3, 9, 0, 0, 0, 0}, []int64{4, 6, 3, 3, 9, 0, 0, 0, 0}},
		{api.Buy, 0, 100, 1, []int64{4, 6, 3, 3, 9, 0, 0, 0, 0}, []int64{4, 6, 3, 3, 9, 0, 0, 0, 0}},
		{api.Buy, math.MinInt64, 100, 1, []int64{4, 6, 3, 3, 9, 0, 0, 0, 0}, []int64{4, 6, 3, 3, 9, 0, 0, 0, 0}},
		{api.Buy, 13, 17, 1, make([]int64, 9), make([]int64, 9)},
		{api.Buy, math.MaxInt64, 17, 1, make([]int64, 9), make([]int64, 9)},
		{api.Buy, 11, 10, 3, []int64{3, 6, 0, 0, 0, 0, 0, 0, 0}, []int64{3, 6, 0, 0, 0, 0, 0, 0, 0}}, // 3 of 4; then two lots of four, whose parts are 1, 0, 0
		{api.Buy, 11, 9, 2, []int64{4, 4, 0, 0, 0, 0, 0, 0, 0}, []int64{4, 4, 0, 0, 0, 0, 0, 0, 0}},
		{api.Buy, 10, 9, 5, []int64{0, 5, 0, 0, 0, 0, 0, 0, 0}, []int64{0, 5, 0, 0, 0, 0, 0, 0, 0}},  // the first one has no lot
		{api.Buy, 10, 14, 5, []int64{0, 5, 0, 0, 5, 0, 0, 0, 0}, []int64{0, 5, 0, 0, 5, 0, 0, 0, 0}}, // what no price has is left to the next one
		{api.Buy, 10, 17, 18, make([]int64, 9), make([]int64, 9)},
		{api.Buy, 10, 17, api.MaxQty, make([]int64, 9), make([]int64, 9)},

		{api.Sell, 11, 5, 1, []int64{0, 0, 0, 0, 0, 5, 0, 0, 0}, []int64{0, 0, 0, 0, 0, 5, 0, 0, 0}},
		{api.Sell, 11, 10, 1, []int64{0, 0, 0, 0, 0, 5, 2, 3, 0}, []int64{0, 0, 0, 0, 0, 5, 1, 4, 0}},
		{api.Sell, 11, 20, 1, []int64{0, 0, 0, 0, 0, 5, 2, 8, 0}, []int64{0, 0, 0, 0, 0, 5, 2, 8, 0}},
		{api.Sell, 12, 20, 1, []int64{0, 0, 0, 0, 0, 5, 2, 8, 5}, []int64{0, 0, 0, 0, 0, 5, 2, 8, 5}},
		{api.Sell, math.MaxInt64, 99, 1, []int64{0, 0, 0, 0, 0, 5, 2, 8, 7}, []int64{0, 0, 0, 0, 0, 5, 2, 8, 7}},
		{api.Sell, 8, 20, 1, make([]int64, 9), make([]int64, 9)},
		{api.Sell, 0, 20, 1, make([]int64, 9), make([]int64, 9)},
		{api.Sell, -7, 20, 1, make([]int64, 9), make([]int64, 9)},

		{0, 11, 10, 1, make([]int64, 9), make([]int64, 9)}, // nobody is of a side that is none
		{3, 11, 10, 1, make([]int64, 9), make([]int64, 9)},
		{-1, 11, 10, 1, make([]int64, 9), make([]int64, 9)},
		{math.MaxInt, 11, 10, 1, make([]int64, 9), make([]int64, 9)},
	} {
		if gets := call.Side(l, c.side, c.price, c.volume, api.ByTime, c.lot); !slices.Equal(gets, c.time) {
			t.Error(i, "by time", gets, "not", c.time)
		}
		if gets := call.Side(l, c.side, c.price, c.volume, api.ByShare, c.lot); !slices.Equal(gets, c.shared) {
			t.Error(i, "by share", gets, "not", c.shared)
		}
	}
}

func TestP19_2OfWhatMayNotBe(t *testing.T) {
	l := example()
	none := func(volume int64, mode int, lot int64) {
		t.Helper()
		for _, side := range []int{api.Buy, api.Sell, 0, 7} {
			if gets := call.Side(l, side, 11, volume, mode, lot); len(gets) != 0 {
				t.Error(side, volume, mode, lot, gets)
			}
		}
		if deals := call.Deals(l, 11, volume, mode, lot); len(deals) != 0 {
			t.Error(volume, mode, lot, deals)
		}
	}
	for _, mode := range wildModes() {
		none(5, mode, 1)
	}
	for _, mode := range []int{api.ByTime, api.ByShare} {
		for _, n := range wildNumbers() {
			none(n, mode, 1)
			none(5, mode, n)
			none(n, mode, n)
		}
		none(5, mode, api.MaxQty+1)
		if gets := call.Side(l, api.Buy, 11, api.MaxMoney, mode, 1); !slices.Equal(gets, []int64{5, 0, 0, 0}) {
			t.Error(mode, gets)
		}
		if gets := call.Side(l, api.Buy, 11, api.MaxMoney, mode, api.MaxQty); !slices.Equal(gets, make([]int64, 4)) {
			t.Error(mode, gets)
		}
	}
}

func TestP19_2DealsByHand(t *testing.T) {
	l := book(buyer(1, 12, 4), buyer(2, 11, 6), buyer(3, 11, 3), seller(4, 9, 3), seller(5, 11, 2), seller(6, 11, 9))
	deal := func(b, s int, n int64) call.Deal { return call.Deal{Buy: l[b], Sell: l[s], Qty: n} }
	for i, c := range []struct {
		price, volume int64
		lot           int64
		time, shared  []call.Deal
	}{
		{11, 1, 1, []call.Deal{deal(0, 3, 1)}, []call.Deal{deal(0, 3, 1)}},
		{
			11, 13, 1,
			[]call.Deal{deal(0, 3, 3), deal(0, 4, 1), deal(1, 4, 1), deal(1, 5, 5), deal(2, 5, 3)},
			[]call.Deal{deal(0, 3, 3), deal(0, 4, 1), deal(1, 4, 1), deal(1, 5, 5), deal(2, 5, 3)}, // of 2 and 9 the parts of 10 are 1 and 8; the first one has one more
		},
		{
			11, 14, 1, // the sellers get one more than the buyers
			[]call.Deal{deal(0, 3, 3), deal(0, 4, 1), deal(1, 4, 1), deal(1, 5, 5), deal(2, 5, 3)},
			[]call.Deal{deal(0, 3, 3), deal(0, 4, 1), deal(1, 4, 1), deal(1, 5, 5), deal(2, 5, 3)},
		},
		{
			11, 7, 1, // the buyers of 11 have 3 left: 2 and 1; the sellers of 11 have 4: 2 and 2 by time, 1 and 3 by share
			[]call.Deal{deal(0, 3, 3), deal(0, 4, 1), deal(1, 4, 1), deal(1, 5, 2)},
			[]call.Deal{deal(0, 3, 3), deal(0, 4, 1), deal(1, 5, 2), deal(2, 5, 1)},
		},
		{12, 20, 1, []call.Deal{deal(0, 3, 3), deal(0, 4, 1)}, []call.Deal{deal(0, 3, 3), deal(0, 4, 1)}},
		{9, 20, 1, []call.Deal{deal(0, 3, 3)}, []call.Deal{deal(0, 3, 3)}},
		{8, 20, 1, nil, nil},
		{13, 20, 1, nil, nil},
		{0, 20, 1, nil, nil},
		{-1, 20, 1, nil, nil},
		{
			11, 13, 3, // the buyers get 3, 6 and 3 of 12, the sellers 3 and 9
			[]call.Deal{deal(0, 3, 3), deal(1, 5, 6), deal(2, 5, 3)},
			[]call.Deal{deal(0, 3, 3), deal(1, 5, 6), deal(2, 5, 3)},
		},
	} {
		want := [][]call.Deal{nil, c.time, c.shared}
		for _, mode := range []int{api.ByTime, api.ByShare} {
			if c.price > 0 && !slices.Equal(want[mode], dealsByWords(l, c.price, c.volume, mode, c.lot)) {
				t.Error(i, mode, "by the words", dealsByWords(l, c.price, c.volume, mode, c.lot))
			}
			if deals := call.Deals(l, c.price, c.volume, mode, c.lot); !slices.Equal(deals, want[mode]) {
				t.Error(i, mode, deals, "not", want[mode])
			}
		}
	}
}

func TestP19_2ByItsWords(t *testing.T) {
	src := rand.New(rand.NewSource(192))
	for range 30000 {
		l, lot, volume := someBook(src, 1+src.Int63n(3)), 1+src.Int63n(4), 1+src.Int63n(60)
		price := someLast(src)
		if len(l) > 0 && src.Intn(4) > 0 {
			price = l[src.Intn(len(l))].Price
		}
		for _, mode := range []int{api.ByTime, api.ByShare} {
			for _, side := range []int{api.Buy, api.Sell} {
				want := sideByWords(l, side, price, volume, mode, lot)
				if gets := call.Side(l, side, price, volume, mode, lot); !slices.Equal(gets, want) {
					t.Fatal(l, side, price, volume, mode, lot, gets, "not", want)
				}
			}
			want := dealsByWords(l, price, volume, mode, lot)
			if deals := call.Deals(l, price, volume, mode, lot); !slices.Equal(deals, want) {
				t.Fatal(l, price, volume, mode, lot, deals, "not", want)
			}
		}
	}
}

func TestP19_2WhatIsHandedInStays(t *testing.T) {
	room := append(example(), buyer(9, 1, 1), seller(9, 1, 1))
	was := slices.Clone(room)
	l := room[:4]
	for _, mode := range []int{api.ByTime, api.ByShare} {
		first, other := call.Side(l, api.Buy, 11, 5, mode, 1), call.Side(l, api.Buy, 11, 5, mode, 1)
		deals, more := call.Deals(l, 11, 5, mode, 1), call.Deals(l, 11, 5, mode, 1)
		call.Price(l, 10)
		if !slices.Equal(room, was) || !slices.Equal(first, other) || !slices.Equal(deals, more) {
			t.Error(mode, room)
		}
		clear(first)
		clear(deals)
		if slices.Equal(first, other) || slices.Equal(deals, more) || !slices.Equal(room, was) {
			t.Error(mode, "an answer is shared")
		}
	}
}

// left tells by their IDs what is left of orders behind deals, and what was traded.
func left(l []api.Order, deals []call.Deal) (of map[uint64]int64, volume int64) {
	of = map[uint64]int64{}
	for _, o := range l {
		of[o.ID] = o.Qty
	}
	for _, d := range deals {
		of[d.Buy.ID] -= d.Qty
		of[d.Sell.ID] -= d.Qty
		volume += d.Qty
	}
	return of, volume
}

func TestP19_3WhatFollows(t *testing.T) {
	src := rand.New(rand.NewSource(193))
	for range 30000 {
		lot := 1 + src.Int63n(5)
		l, last, mode := someBook(src, lot), someLast(src), 1+src.Intn(2)
		price, volume := call.Price(l, last)
		deals := call.Deals(l, price, volume, mode, lot)
		of, all := left(l, deals)
		if all != volume {
			t.Fatal("not the volume", l, last, mode, lot, deals, volume)
		}
		for _, d := range deals {
			if d.Buy.Side != api.Buy || d.Sell.Side != api.Sell || !willing(d.Buy, price) || !willing(d.Sell, price) || d.Qty < 1 || d.Qty%lot != 0 {
				t.Fatal("a deal that may not be", l, last, mode, lot, d)
			}
		}
		bid, ask := int64(0), int64(math.MaxInt64)
		for _, o := range l {
			switch {
			case of[o.ID] < 0:
				t.Fatal("more than it has", l, last, mode, lot, deals)
			case of[o.ID] > 0 && o.Side == api.Buy:
				bid = max(bid, o.Price)
			case of[o.ID] > 0:
				ask = min(ask, o.Price)
			}
		}
		if bid >= ask {
			t.Fatal("some are left who would trade", l, last, mode, lot, deals)
		}
	}
}
