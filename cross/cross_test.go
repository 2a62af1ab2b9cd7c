package cross_test

import (
	"math"
	"math/rand"
	"slices"
	"testing"

	"jobber/api"
	"jobber/cross"
	"jobber/layout"
)

const (
	topPrice = 1 << 40
	topQty   = 1 << 40
)

// sells tells one who sells, and whose ID and place are one number.
func sells(id uint64, account int, price, qty int64) api.Order {
	return api.Order{ID: id, Account: account, Side: api.Sell, Price: price, Qty: qty, Seq: id}
}

// buys tells one who buys.
func buys(id uint64, account int, price, qty int64) api.Order {
	o := sells(id, account, price, qty)
	o.Side = api.Buy
	return o
}

// trade is so much with the order of that ID.
type trade struct {
	id  uint64
	qty int64
}

// match is what comes, against what, and what comes of it.
type match struct {
	name   string
	book   []api.Order
	taker  cross.Taker
	rules  api.Rules
	trades []trade
	drops  []uint64
	left   int64
	stop   bool
	behind []trade // who waits behind it, and how much is left of each
}

// check has it matched, in books of both layouts.
func (m match) check(t *testing.T) {
	t.Helper()
	for _, kind := range kinds() {
		b := built(t, kind, m.book...)
		was := b.Clone()
		if n := cross.Reach(b, m.taker, m.rules); m.taker.Cash < 0 && n != m.taker.Qty-m.left || !slices.Equal(b.All(), was.All()) {
			t.Error(m.name, kind, "reach", n)
		}
		want := cross.Result{Left: m.left, Stop: m.stop}
		of := was.Clone()
		for _, one := range m.trades {
			rest, _ := of.Get(one.id)
			want.Fills = append(want.Fills, cross.Fill{Rest: rest, Qty: one.qty})
			of.Cut(one.id, one.qty)
		}
		for _, id := range m.drops {
			o, _ := was.Get(id)
			want.Drops = append(want.Drops, o)
		}
		got, e := cross.Match(b, m.taker, m.rules)
		if e != api.OK || !same(got, want) {
			t.Error(m.name, kind, int(e), got, want)
		}
		var behind []trade
		for _, o := range b.All() {
			behind = append(behind, trade{o.ID, o.Qty})
		}
		if !slices.Equal(behind, m.behind) {
			t.Error(m.name, kind, "behind", behind, m.behind)
		}
	}
}

// buyer tells one of the account 0 who buys, and has cash enough.
func buyer(price, qty int64) cross.Taker {
	return cross.Taker{Side: api.Buy, Price: price, Qty: qty, Cash: -1}
}

// with tells one who has just so much cash.
func with(cash int64, t cross.Taker) cross.Taker {
	t.Cash = cash
	return t
}

// plain are rules of single pieces, by time, in which all may trade with themselves.
func plain() api.Rules {
	return rules(1, api.ByTime, api.Allow)
}

func TestTheChaptersExample(t *testing.T) {
	match{
		name: "the chapter's", book: []api.Order{sells(1, 1, 10, 5), sells(2, 2, 11, 5)},
		taker: buyer(11, 8), rules: plain(),
		trades: []trade{{1, 5}, {2, 3}}, behind: []trade{{2, 2}},
	}.check(t)
}

func TestP18_1GoesOverPrices(t *testing.T) {
	asks := []api.Order{sells(1, 1, 12, 5), sells(2, 2, 10, 5), sells(3, 3, 10, 4), sells(4, 4, 11, 3), buys(9, 5, 9, 7)}
	bids := []api.Order{buys(1, 1, 12, 5), buys(2, 2, 14, 5), buys(3, 3, 14, 4), buys(4, 4, 13, 3), sells(9, 5, 15, 7)}
	seller := func(price, qty int64) cross.Taker { return cross.Taker{Side: api.Sell, Price: price, Qty: qty} }
	for _, m := range []match{
		{name: "nobody waits", taker: buyer(10, 5), rules: plain(), left: 5},
		{name: "only its own side waits", book: asks[4:], taker: buyer(20, 5), rules: plain(), left: 5, behind: []trade{{9, 7}}},
		{name: "below the best", book: asks, taker: buyer(9, 5), rules: plain(), left: 5, behind: []trade{{9, 7}, {2, 5}, {3, 4}, {4, 3}, {1, 5}}},
		{name: "at the best", book: asks, taker: buyer(10, 5), rules: plain(), trades: []trade{{2, 5}}, behind: []trade{{9, 7}, {3, 4}, {4, 3}, {1, 5}}},
		{name: "a part", book: asks, taker: buyer(10, 6), rules: plain(), trades: []trade{{2, 5}, {3, 1}}, behind: []trade{{9, 7}, {3, 3}, {4, 3}, {1, 5}}},
		{name: "the best alone", book: asks, taker: buyer(10, 15), rules: plain(), trades: []trade{{2, 5}, {3, 4}}, left: 6, behind: []trade{{9, 7}, {4, 3}, {1, 5}}},
		{name: "two prices", book: asks, taker: buyer(11, 15), rules: plain(), trades: []trade{{2, 5}, {3, 4}, {4, 3}}, left: 3, behind: []trade{{9, 7}, {1, 5}}},
		{name: "three prices", book: asks, taker: buyer(12, 15), rules: plain(), trades: []trade{{2, 5}, {3, 4}, {4, 3}, {1, 3}}, behind: []trade{{9, 7}, {1, 2}}},
		{name: "any price", book: asks, taker: buyer(0, 17), rules: plain(), trades: []trade{{2, 5}, {3, 4}, {4, 3}, {1, 5}}, behind: []trade{{9, 7}}},
		{name: "more than all", book: asks, taker: buyer(0, 20), rules: plain(), trades: []trade{{2, 5}, {3, 4}, {4, 3}, {1, 5}}, left: 3, behind: []trade{{9, 7}}},
		{name: "a seller above the best", book: bids, taker: seller(15, 5), rules: plain(), left: 5, behind: []trade{{2, 5}, {3, 4}, {4, 3}, {1, 5}, {9, 7}}},
		{name: "a seller at the best", book: bids, taker: seller(14, 15), rules: plain(), trades: []trade{{2, 5}, {3, 4}}, left: 6, behind: []trade{{4, 3}, {1, 5}, {9, 7}}},
		{name: "a seller at two prices", book: bids, taker: seller(13, 11), rules: plain(), trades: []trade{{2, 5}, {3, 4}, {4, 2}}, behind: []trade{{4, 1}, {1, 5}, {9, 7}}},
		{name: "a seller at any price", book: bids, taker: seller(0, 20), rules: plain(), trades: []trade{{2, 5}, {3, 4}, {4, 3}, {1, 5}}, left: 3, behind: []trade{{9, 7}}},
	} {
		if m.taker.Side == api.Sell {
			m.taker.Cash = -1 // so that its reach is held against it; what cash does to sellers is tested elsewhere
		}
		m.check(t)
	}
}

func TestP18_1SharesByTheRules(t *testing.T) {
	asks := []api.Order{sells(1, 1, 10, 6), sells(2, 2, 10, 6), sells(3, 3, 10, 3), sells(4, 4, 11, 9)}
	for _, m := range []match{
		{name: "by time", book: asks, taker: buyer(11, 10), rules: rules(1, api.ByTime, api.Allow),
			trades: []trade{{1, 6}, {2, 4}}, behind: []trade{{2, 2}, {3, 3}, {4, 9}}},
		{name: "by share", book: asks, taker: buyer(11, 10), rules: rules(1, api.ByShare, api.Allow),
			trades: []trade{{1, 4}, {2, 4}, {3, 2}}, behind: []trade{{1, 2}, {2, 2}, {3, 1}, {4, 9}}},
		{name: "by share, in lots of 3", book: asks, taker: buyer(11, 10), rules: rules(3, api.ByShare, api.Allow),
			trades: []trade{{1, 6}, {2, 3}}, left: 1, behind: []trade{{2, 3}, {3, 3}, {4, 9}}},
		{name: "by share, over two prices", book: asks, taker: buyer(11, 21), rules: rules(3, api.ByShare, api.Allow),
			trades: []trade{{1, 6}, {2, 6}, {3, 3}, {4, 6}}, behind: []trade{{4, 3}}},
		{name: "less than a lot comes", book: asks, taker: buyer(11, 2), rules: rules(3, api.ByTime, api.Allow),
			left: 2, behind: []trade{{1, 6}, {2, 6}, {3, 3}, {4, 9}}},
		{name: "less than a lot is left at a price", book: asks, taker: buyer(11, 17), rules: rules(3, api.ByTime, api.Allow),
			trades: []trade{{1, 6}, {2, 6}, {3, 3}}, left: 2, behind: []trade{{4, 9}}},
		{name: "one that waits keeps less than a lot", book: asks, taker: buyer(11, 20), rules: rules(5, api.ByTime, api.Allow),
			trades: []trade{{1, 5}, {2, 5}}, left: 10, behind: []trade{{1, 1}, {2, 1}, {3, 3}, {4, 9}}}, // so that is all
		{name: "one that waits has less than a lot", book: asks[2:], taker: buyer(11, 20), rules: rules(4, api.ByShare, api.Allow),
			left: 20, behind: []trade{{3, 3}, {4, 9}}},
	} {
		m.check(t)
	}
}

func TestP18_1OwnOnes(t *testing.T) {
	asks := []api.Order{sells(1, 1, 10, 5), sells(2, 0, 10, 5), sells(3, 3, 10, 5), sells(4, 0, 11, 5), sells(5, 5, 11, 5)}
	as := func(self int) api.Rules { return rules(1, api.ByTime, self) }
	all := []trade{{1, 5}, {2, 5}, {3, 5}, {4, 5}, {5, 5}}
	for _, m := range []match{
		{name: "allow", book: asks, taker: buyer(11, 25), rules: as(api.Allow), trades: all},
		{name: "new, a part of the run", book: asks, taker: buyer(11, 4), rules: as(api.DropNew), trades: []trade{{1, 4}}, behind: slices.Concat([]trade{{1, 1}}, all[1:])},
		{name: "new, the run alone", book: asks, taker: buyer(11, 5), rules: as(api.DropNew), trades: all[:1], behind: all[1:]},
		{name: "new", book: asks, taker: buyer(11, 6), rules: as(api.DropNew), trades: all[:1], left: 1, stop: true, behind: all[1:]},
		{name: "old, the run alone", book: asks, taker: buyer(11, 5), rules: as(api.DropOld), trades: all[:1], behind: all[1:]},
		{name: "old", book: asks, taker: buyer(11, 6), rules: as(api.DropOld), trades: []trade{{1, 5}, {3, 1}}, drops: []uint64{2}, behind: []trade{{3, 4}, {4, 5}, {5, 5}}},
		{name: "old, one price", book: asks, taker: buyer(10, 20), rules: as(api.DropOld), trades: []trade{{1, 5}, {3, 5}}, drops: []uint64{2}, left: 10, behind: all[3:]},
		{name: "old, all of it", book: asks, taker: buyer(11, 20), rules: as(api.DropOld), trades: []trade{{1, 5}, {3, 5}, {5, 5}}, drops: []uint64{2, 4}, left: 5},
		{name: "old, up to an own one", book: asks, taker: buyer(11, 10), rules: as(api.DropOld), trades: []trade{{1, 5}, {3, 5}}, drops: []uint64{2}, behind: all[3:]},
		{name: "both, the run alone", book: asks, taker: buyer(11, 5), rules: as(api.DropBoth), trades: all[:1], behind: all[1:]},
		{name: "both", book: asks, taker: buyer(11, 6), rules: as(api.DropBoth), trades: all[:1], drops: []uint64{2}, left: 1, stop: true, behind: all[2:]},
		{name: "new, own ahead", book: asks[1:], taker: buyer(11, 6), rules: as(api.DropNew), left: 6, stop: true, behind: all[1:]},
		{name: "old, own ahead", book: asks[3:], taker: buyer(11, 6), rules: as(api.DropOld), trades: all[4:], drops: []uint64{4}, left: 1},
		{name: "both, own ahead", book: asks[3:], taker: buyer(11, 6), rules: as(api.DropBoth), drops: []uint64{4}, left: 6, stop: true, behind: all[4:]},
		{name: "own ones beyond its price", book: asks[3:], taker: buyer(10, 6), rules: as(api.DropBoth), left: 6, behind: all[3:]},
		{name: "no policy counts for its own side", book: []api.Order{buys(1, 0, 9, 5)}, taker: buyer(0, 6), rules: as(api.DropBoth), left: 6, behind: all[:1]},
		{name: "somebody keeps less than a lot", book: asks, taker: buyer(11, 20), rules: rules(2, api.ByTime, api.DropOld), // so the own one stays
			trades: []trade{{1, 4}}, left: 16, behind: slices.Concat([]trade{{1, 1}}, all[1:])},
		{name: "an own one is met by less than a lot", book: asks, taker: buyer(11, 7), rules: rules(5, api.ByTime, api.DropOld),
			trades: all[:1], drops: []uint64{2}, left: 2, behind: all[2:]},
		{name: "an own one's less than a lot goes", book: asks[1:], taker: buyer(10, 20), rules: rules(6, api.ByTime, api.DropOld),
			drops: []uint64{2}, left: 20, behind: all[2:]},
	} {
		m.check(t)
	}
	by := buyer(11, 20)
	by.Account = 3
	match{name: "another account", book: asks, taker: by, rules: rules(1, api.ByTime, api.DropBoth),
		trades: all[:2], drops: []uint64{3}, left: 10, stop: true, behind: all[3:]}.check(t)
	by.Account = -7 // nobody has it
	match{name: "no account", book: asks, taker: by, rules: rules(1, api.ByTime, api.DropBoth), trades: all[:4], behind: all[4:]}.check(t)
}

func TestP18_1RunsShareApart(t *testing.T) {
	asks := []api.Order{sells(1, 1, 10, 6), sells(2, 2, 10, 6), sells(3, 0, 10, 9), sells(4, 4, 10, 3), sells(5, 5, 10, 3)}
	match{name: "the own one is not of the run", book: asks, taker: buyer(10, 8), rules: rules(1, api.ByShare, api.DropOld),
		trades: []trade{{1, 4}, {2, 4}}, behind: []trade{{1, 2}, {2, 2}, {3, 9}, {4, 3}, {5, 3}}}.check(t)
	match{name: "those behind it share what is left", book: asks, taker: buyer(10, 16), rules: rules(1, api.ByShare, api.DropOld),
		trades: []trade{{1, 6}, {2, 6}, {4, 2}, {5, 2}}, drops: []uint64{3}, behind: []trade{{4, 1}, {5, 1}}}.check(t)
}

func TestP18_1Cash(t *testing.T) {
	asks := []api.Order{sells(1, 1, 10, 5), sells(2, 2, 10, 5), sells(3, 0, 10, 5), sells(4, 4, 11, 5)}
	from := func(n int64, l ...trade) []trade { return append([]trade{{1, 5 - n}}, l...) }
	rest := []trade{{2, 5}, {3, 5}, {4, 5}}
	for _, m := range []match{
		{name: "none", book: asks, taker: with(0, buyer(11, 8)), rules: plain(), left: 8, behind: from(0, rest...)},
		{name: "for none", book: asks, taker: with(9, buyer(11, 8)), rules: plain(), left: 8, behind: from(0, rest...)},
		{name: "for one", book: asks, taker: with(10, buyer(11, 8)), rules: plain(), trades: []trade{{1, 1}}, left: 7, behind: from(1, rest...)},
		{name: "for four", book: asks, taker: with(49, buyer(11, 8)), rules: plain(), trades: []trade{{1, 4}}, left: 4, behind: from(4, rest...)},
		{name: "for two lots of two", book: asks, taker: with(59, buyer(11, 8)), rules: rules(2, api.ByTime, api.Allow), trades: []trade{{1, 4}}, left: 4, behind: from(4, rest...)},
		{name: "for no lot", book: asks, taker: with(49, buyer(11, 8)), rules: rules(5, api.ByTime, api.Allow), left: 8, behind: from(0, rest...)},
		{name: "for all that comes", book: asks, taker: with(80, buyer(11, 8)), rules: plain(), trades: []trade{{1, 5}, {2, 3}}, behind: []trade{{2, 2}, {3, 5}, {4, 5}}},
		{name: "by share", book: asks, taker: with(65, buyer(11, 14)), rules: rules(1, api.ByShare, api.Allow),
			trades: []trade{{1, 2}, {2, 2}, {3, 2}}, left: 8, behind: []trade{{1, 3}, {2, 3}, {3, 3}, {4, 5}}},
		{name: "what was paid is gone at the next price", book: asks, taker: with(172, buyer(11, 20)), rules: plain(),
			trades: []trade{{1, 5}, {2, 5}, {3, 5}, {4, 2}}, left: 3, behind: []trade{{4, 3}}},
		{name: "at any price", book: asks, taker: with(193, buyer(0, 20)), rules: plain(),
			trades: []trade{{1, 5}, {2, 5}, {3, 5}, {4, 3}}, left: 2, behind: []trade{{4, 2}}},
		{name: "just all", book: asks, taker: with(205, buyer(0, 20)), rules: plain(), trades: []trade{{1, 5}, {2, 5}, {3, 5}, {4, 5}}},
		{name: "one too little", book: asks, taker: with(204, buyer(0, 20)), rules: plain(), trades: []trade{{1, 5}, {2, 5}, {3, 5}, {4, 4}}, left: 1, behind: []trade{{4, 1}}},
		{name: "an own one is met without cash", book: asks, taker: with(100, buyer(11, 20)), rules: rules(1, api.ByTime, api.DropOld),
			trades: []trade{{1, 5}, {2, 5}}, drops: []uint64{3}, left: 10, behind: []trade{{4, 5}}},
		{name: "an own one is not met behind somebody", book: asks, taker: with(99, buyer(11, 20)), rules: rules(1, api.ByTime, api.DropOld),
			trades: []trade{{1, 5}, {2, 4}}, left: 11, behind: []trade{{2, 1}, {3, 5}, {4, 5}}},
		{name: "what was paid is gone behind an own one", book: asks, taker: with(133, buyer(11, 20)), rules: rules(1, api.ByTime, api.DropOld),
			trades: []trade{{1, 5}, {2, 5}, {4, 3}}, drops: []uint64{3}, left: 7, behind: []trade{{4, 2}}},
		{name: "stopped without cash", book: asks[2:], taker: with(0, buyer(11, 20)), rules: rules(1, api.ByTime, api.DropNew),
			left: 20, stop: true, behind: rest[1:]},
	} {
		m.check(t)
	}
	bids := []api.Order{buys(1, 1, 10, 5)}
	for _, cash := range []int64{math.MinInt64, -1, 0, 1, 49, math.MaxInt64} {
		match{name: "of a seller it is not asked", book: bids, taker: cross.Taker{Side: api.Sell, Price: 10, Qty: 7, Cash: cash}, rules: plain(),
			trades: []trade{{1, 5}}, left: 2}.check(t)
	}
	for _, cash := range []int64{math.MinInt64, -2, -1, 50, topQty, math.MaxInt64} {
		match{name: "enough", book: asks[:1], taker: with(cash, buyer(10, 5)), rules: plain(), trades: []trade{{1, 5}}}.check(t)
	}
}

func TestP18_1AtTheLimits(t *testing.T) {
	var asks []api.Order
	for i := range 64 {
		asks = append(asks, sells(uint64(i), i%8, topPrice, topQty))
	}
	for _, m := range []match{
		{name: "the greatest of all", book: asks[:1], taker: buyer(topPrice, topQty), rules: rules(topQty, api.ByShare, api.Allow), trades: []trade{{0, topQty}}},
		{name: "all cash there is", book: asks[:1], taker: with(math.MaxInt64, buyer(topPrice, topQty)), rules: plain(),
			trades: []trade{{0, 1<<23 - 1}}, left: topQty - (1<<23 - 1), behind: []trade{{0, topQty - (1<<23 - 1)}}},
		{name: "no whole lot", book: asks[:1], taker: buyer(topPrice, topQty-1), rules: rules(topQty, api.ByShare, api.Allow), left: topQty - 1, behind: []trade{{0, topQty}}},
		{name: "the least of all", book: []api.Order{sells(7, 0, 1, 1)}, taker: buyer(1, 1), rules: plain(), trades: []trade{{7, 1}}},
		{name: "the least by the greatest", book: []api.Order{sells(7, 0, 1, 1)}, taker: buyer(topPrice, topQty), rules: plain(), trades: []trade{{7, 1}}, left: topQty - 1},
	} {
		m.check(t)
	}
	m := match{name: "64 at one price", book: asks, taker: buyer(0, topQty), rules: rules(1, api.ByShare, api.Allow)}
	for i := range uint64(64) {
		m.trades, m.behind = append(m.trades, trade{i, topQty / 64}), append(m.behind, trade{i, topQty - topQty/64})
	}
	m.check(t)
	m = match{name: "64 own ones", taker: buyer(0, 9), rules: rules(1, api.ByTime, api.DropOld), left: 9}
	for i := range uint64(64) {
		m.book, m.drops = append(m.book, sells(i, 0, 1+int64(i), 4)), append(m.drops, i)
	}
	m.check(t)
	m = match{name: "64 prices", taker: buyer(0, 300), rules: plain(), left: 300 - 64*4}
	for i := range uint64(64) {
		m.book, m.trades = append(m.book, sells(i, 0, 1+int64(i), 4)), append(m.trades, trade{i, 4})
	}
	m.check(t)
}

// wrong are takers and rules that may not be, each by one number of it.
func wrong() (takers []cross.Taker, sets []api.Rules) {
	for _, n := range []int{0, 3, -1, -2, 4, 1<<32 + 1, math.MaxInt, math.MinInt, math.MinInt + 2} {
		t := buyer(11, 8)
		t.Side = n
		takers, sets = append(takers, t), append(sets, rules(1, n, api.Allow))
	}
	for _, n := range []int64{-1, topPrice + 1, math.MaxInt64, math.MinInt64} {
		takers = append(takers, buyer(n, 8))
	}
	for _, n := range []int64{0, -1, topQty + 1, math.MaxInt64, math.MinInt64} {
		takers, sets = append(takers, buyer(11, n)), append(sets, rules(n, api.ByTime, api.Allow))
	}
	for _, n := range []int{0, 5, -1, -4, 1<<32 + 1, math.MaxInt, math.MinInt} {
		sets = append(sets, rules(1, api.ByTime, n))
	}
	return takers, append(sets, api.Rules{})
}

func TestP18_1OfWhatMayNotBe(t *testing.T) {
	takers, sets := wrong()
	for _, kind := range kinds() {
		b := built(t, kind, sells(1, 0, 10, 5), sells(2, 2, 11, 5), buys(3, 0, 9, 5), buys(4, 2, 8, 5))
		was := b.All()
		check := func(t1 cross.Taker, r api.Rules) {
			t.Helper()
			res, e := cross.Match(b, t1, r)
			if e != api.ErrArg || !same(res, cross.Result{}) || !slices.Equal(b.All(), was) {
				t.Error(t1, r, int(e), res)
			}
			if n := cross.Reach(b, t1, r); n != 0 || !slices.Equal(b.All(), was) {
				t.Error(t1, r, "reach", n)
			}
		}
		for _, one := range takers {
			check(one, plain())
		}
		for _, r := range sets {
			check(buyer(11, 8), r)
		}
	}
}

func TestP18_1OfNoBook(t *testing.T) {
	takers, sets := wrong()
	for _, b := range []*layout.Book{nil, {}, layout.Make(3)} {
		for _, one := range append(takers, buyer(11, 8)) { // whatever comes, that is said first
			for _, r := range append(sets, plain()) {
				if res, e := cross.Match(b, one, r); e != api.ErrNil || !same(res, cross.Result{}) {
					t.Error(one, r, int(e), res)
				}
				if n := cross.Reach(b, one, r); n != 0 {
					t.Error(one, r, n)
				}
			}
		}
		for _, side := range []int{api.Buy, api.Sell, 0, 3} {
			for _, price := range []int64{math.MinInt64, 0, 10, math.MaxInt64} {
				if cross.Meets(b, side, price) {
					t.Error(side, price)
				}
			}
		}
	}
}

func TestP18_1NothingElseOfTheRulesIsAsked(t *testing.T) {
	r := rules(1, api.ByTime, api.Allow)
	r.Version, r.Band, r.Round, r.Layout = -1, -1, 9, 9
	r.Ticks, r.Fees = []api.Tick{{From: -1, Size: -1}}, make([]api.Tier, 100)
	match{name: "other rules", book: []api.Order{sells(1, 1, 10, 5)}, taker: buyer(10, 3), rules: r, trades: []trade{{1, 3}}, behind: []trade{{1, 2}}}.check(t)
}

func TestP18_1AnswersShareNothing(t *testing.T) {
	for _, kind := range kinds() {
		b := built(t, kind, sells(1, 1, 10, 5), sells(2, 0, 10, 5), sells(3, 3, 10, 5), sells(4, 4, 10, 5))
		res, _ := cross.Match(b, buyer(10, 6), rules(1, api.ByTime, api.DropOld))
		was := b.All()
		clear(res.Fills)
		clear(res.Drops)
		_, _ = append(res.Fills, cross.Fill{}), append(res.Drops, api.Order{})
		if !slices.Equal(b.All(), was) || b.Len() != 2 {
			t.Error(kind, b.All(), was)
		}
	}
}

func TestP18_2Reach(t *testing.T) {
	asks := []api.Order{sells(1, 1, 10, 5), sells(2, 0, 10, 5), sells(3, 3, 11, 5), buys(9, 5, 9, 7)}
	for i, c := range []struct {
		taker cross.Taker
		rules api.Rules
		want  int64
	}{
		{buyer(9, 8), plain(), 0},
		{buyer(10, 8), plain(), 8},
		{buyer(10, 12), plain(), 10},
		{buyer(11, 12), plain(), 12},
		{buyer(11, 20), plain(), 15},
		{buyer(0, 20), plain(), 15},
		{buyer(0, 4), plain(), 4},             // at most its Qty
		{with(0, buyer(11, 12)), plain(), 12}, // if cash were enough
		{with(1, buyer(11, 20)), plain(), 15},
		{buyer(11, 20), rules(1, api.ByShare, api.Allow), 15},
		{buyer(11, 20), rules(1, api.ByTime, api.DropNew), 5},
		{buyer(11, 20), rules(1, api.ByTime, api.DropOld), 10},
		{buyer(11, 20), rules(1, api.ByTime, api.DropBoth), 5},
		{buyer(11, 9), rules(5, api.ByTime, api.Allow), 5}, // in whole lots
		{buyer(11, 14), rules(5, api.ByShare, api.Allow), 10},
		{buyer(11, 4), rules(5, api.ByShare, api.Allow), 0},
		{buyer(11, 15), rules(4, api.ByTime, api.Allow), 8},   // 1 and 2 keep 1 each, which is something
		{buyer(11, 15), rules(4, api.ByTime, api.DropOld), 4}, // 1 keeps 1
		{cross.Taker{Side: api.Sell, Price: 9, Qty: 9}, plain(), 7},
		{cross.Taker{Side: api.Sell, Price: 10, Qty: 9}, plain(), 0},
		{cross.Taker{Side: api.Sell, Qty: 6}, plain(), 6},
		{cross.Taker{Side: api.Sell, Account: 5, Qty: 6}, rules(1, api.ByTime, api.DropOld), 0},
	} {
		for _, kind := range kinds() {
			b := built(t, kind, asks...)
			was := b.All()
			for range 2 {
				if got := cross.Reach(b, c.taker, c.rules); got != c.want {
					t.Error(i, kind, got, c.want)
				}
			}
			if !slices.Equal(b.All(), was) || b.Kind() != kind {
				t.Error(i, kind, "the book is another one", b.All())
			}
		}
	}
}

func TestP18_2Meets(t *testing.T) {
	both := []api.Order{sells(1, 1, 10, 5), sells(2, 2, 12, 5), buys(3, 3, 8, 5), buys(4, 4, 6, 5)}
	for i, c := range []struct {
		side  int
		price int64
		want  bool
	}{
		{api.Buy, 9, false}, {api.Buy, 10, true}, {api.Buy, 11, true}, {api.Buy, 12, true}, {api.Buy, topPrice, true},
		{api.Buy, 8, false}, {api.Buy, 1, false}, {api.Buy, 0, false}, {api.Buy, -1, false},
		{api.Buy, math.MaxInt64, true}, {api.Buy, math.MinInt64, false},
		{api.Sell, 9, false}, {api.Sell, 8, true}, {api.Sell, 7, true}, {api.Sell, 6, true}, {api.Sell, 1, true},
		{api.Sell, 10, false}, {api.Sell, topPrice, false}, {api.Sell, 0, true}, {api.Sell, -1, true},
		{api.Sell, math.MaxInt64, false}, {api.Sell, math.MinInt64, true},
		{0, 8, false}, {3, 8, false}, {-1, 10, false}, {4, 0, false}, {math.MaxInt, 10, false}, {math.MinInt, 10, false}, {1<<32 + 1, 10, false},
	} {
		for _, kind := range kinds() {
			b := built(t, kind, both...)
			was := b.All()
			if got := cross.Meets(b, c.side, c.price); got != c.want || !slices.Equal(b.All(), was) {
				t.Error(i, kind, got)
			}
			if cross.Meets(layout.Make(kind), c.side, c.price) {
				t.Error(i, kind, "an empty book")
			}
			alone := built(t, kind, both[:2]...) // only who sells
			if got := cross.Meets(alone, c.side, c.price); got != (c.want && c.side == api.Buy) {
				t.Error(i, kind, "sellers alone", got)
			}
		}
	}
}

func TestP18_1And2ByTheirWords(t *testing.T) {
	src := rand.New(rand.NewSource(181))
	for range 30000 {
		c := choose(src)
		want, behind := byWords(c.book, c.taker, c.rules)
		rich := c.taker
		rich.Cash = -1
		could, _ := byWords(c.book, rich, c.rules)
		for _, kind := range kinds() {
			b := built(t, kind, c.book...)
			if n := cross.Reach(b, c.taker, c.rules); n != c.taker.Qty-could.Left || !slices.Equal(b.All(), c.book) {
				t.Fatal("reach", kind, c, n, could)
			}
			got, e := cross.Match(b, c.taker, c.rules)
			if e != api.OK || !same(got, want) {
				t.Fatal(kind, c, int(e), got, want)
			}
			if !slices.Equal(b.All(), behind) || b.Kind() != kind {
				t.Fatal("behind", kind, c, b.All(), behind)
			}
		}
	}
}

// better tells whether one price is better to one that comes than another one.
func better(t cross.Taker, price, than int64) bool {
	if t.Side == api.Buy {
		return price < than
	}
	return price > than
}

// excused tells whether one that waits at a price that would trade may wait behind a match, as the chapter has it.
func excused(c chosen, got cross.Result, spent int64, best api.Order) bool {
	lot, t := c.rules.Lot, c.taker
	switch {
	case got.Stop, best.Account == t.Account && c.rules.Self != api.Allow:
		return true
	case t.Side == api.Buy && t.Cash >= 0 && (t.Cash-spent)/best.Price < lot:
		return true
	}
	return got.Left < lot || best.Qty < lot
}

func TestP18_3WhatFollows(t *testing.T) {
	src := rand.New(rand.NewSource(183))
	for range 20000 {
		c := choose(src)
		b := built(t, api.Ladder+src.Intn(2), c.book...)
		got, _ := cross.Match(b, c.taker, c.rules)
		sum, spent, worst := got.Left, int64(0), int64(0)
		for i, f := range got.Fills {
			sum, spent = sum+f.Qty, spent+f.Qty*f.Rest.Price
			if f.Qty < 1 || f.Qty%c.rules.Lot != 0 || f.Qty > f.Rest.Qty || f.Rest.Side == c.taker.Side || !wouldTrade(c.taker, f.Rest.Price) {
				t.Fatal("no such trade", c, got)
			}
			if i > 0 && better(c.taker, f.Rest.Price, worst) {
				t.Fatal("a better price behind a worse one", c, got)
			}
			worst = f.Rest.Price
		}
		if sum != c.taker.Qty || got.Left < 0 {
			t.Fatal("what was filled, and what is left, is not what came", c, got)
		}
		if c.taker.Side == api.Buy && c.taker.Cash >= 0 && spent > c.taker.Cash {
			t.Fatal("more than it has", c, got, spent)
		}
		for _, o := range b.All() {
			isOwn := o.Account == c.taker.Account && c.rules.Self != api.Allow
			if len(got.Fills) > 0 && o.Side != c.taker.Side && better(c.taker, o.Price, worst) && !isOwn {
				t.Fatal("somebody waits at a better price", c, got, o)
			}
		}
		if best, ok := b.Best(3 - c.taker.Side); ok && got.Left > 0 && wouldTrade(c.taker, best.Price) && !excused(c, got, spent, best) {
			t.Fatal("somebody waits who would trade", c, got, best)
		}
	}
}
