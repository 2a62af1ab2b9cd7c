package requant_test

import (
	"math"
	"math/rand"
	"reflect"
	"slices"
	"testing"

	"jobber/api"
	"jobber/market"
	"jobber/purse"
	"jobber/requant"
	"jobber/rules"
	"jobber/sample"
)

// What the tests begin with.
var (
	by            = sample.By
	buy, sell, at = sample.Buy, sample.Sell, sample.At
)

// steps tells rules of steps, and of lots.
func steps(size, lot int64) api.Rules {
	return by(func(r *api.Rules) { r.Version, r.Ticks[0].Size, r.Lot = 2, size, lot })
}

// why tells by the chapters' words why an order goes.
func why(o api.Order, r api.Rules) api.Errno {
	var row api.Tick
	for _, t := range r.Ticks {
		if t.From <= o.Price {
			row = t
		}
	}
	if o.Price < 1 || o.Price > api.MaxPrice || (o.Price-row.From)%row.Size != 0 {
		return api.ErrTick
	}
	if o.Qty < 1 || o.Qty > api.MaxQty || o.Qty%r.Lot != 0 {
		return api.ErrLot
	}
	return api.OK
}

func TestP23_1WhyByHand(t *testing.T) {
	rows := by(func(r *api.Rules) {
		r.Ticks, r.Lot = []api.Tick{{From: 0, Size: 1}, {From: 100, Size: 5}, {From: 1000, Size: 10}}, 10
	})
	for _, c := range []struct {
		price, qty int64
		want       api.Errno
	}{
		{1, 10, api.OK}, {99, 10, api.OK}, {100, 20, api.OK}, {105, 10, api.OK}, {995, 10, api.OK},
		{1000, 10, api.OK}, {1010, 1 << 40 / 10 * 10, api.OK}, {1 << 40 / 10 * 10, 10, api.OK},
		{101, 10, api.ErrTick}, {104, 10, api.ErrTick}, {999, 10, api.ErrTick}, {1005, 10, api.ErrTick},
		{0, 10, api.ErrTick}, {-5, 10, api.ErrTick}, {math.MinInt64, 10, api.ErrTick},
		{api.MaxPrice, 10, api.ErrTick}, {math.MaxInt64, 10, api.ErrTick}, {1<<40/10*10 + 10, 10, api.ErrTick},
		{105, 15, api.ErrLot}, {105, 9, api.ErrLot}, {105, 0, api.ErrLot}, {105, -10, api.ErrLot},
		{105, api.MaxQty, api.ErrLot}, {105, 1<<40/10*10 + 10, api.ErrLot}, {105, math.MinInt64, api.ErrLot},
		{101, 15, api.ErrTick}, {0, 0, api.ErrTick}, // off the grid comes first
	} {
		if e := requant.Why(api.Order{Price: c.price, Qty: c.qty}, rows); e != c.want {
			t.Error(c, int(e))
		}
	}
	all := steps(1, 1)
	for _, o := range []api.Order{{Price: 1, Qty: 1}, {Price: api.MaxPrice, Qty: api.MaxQty}} {
		if e := requant.Why(o, all); e != api.OK {
			t.Error(o, int(e))
		}
	}
	for _, o := range []api.Order{{Price: 0, Qty: 1}, {Price: api.MaxPrice + 1, Qty: 1}} {
		if e := requant.Why(o, all); e != api.ErrTick {
			t.Error(o, int(e))
		}
	}
	for _, o := range []api.Order{{Price: 1, Qty: 0}, {Price: 1, Qty: api.MaxQty + 1}} {
		if e := requant.Why(o, all); e != api.ErrLot {
			t.Error(o, int(e))
		}
	}
}

func TestP23_1WhyAsksForPriceAndQuantityAlone(t *testing.T) {
	for _, o := range []api.Order{
		{Price: 10, Qty: 6},
		{ID: math.MaxUint64, Account: -1, Side: 7, Price: 10, Qty: 6, Seq: math.MaxUint64},
	} {
		if e := requant.Why(o, steps(5, 3)); e != api.OK {
			t.Error(o, int(e))
		}
	}
	r := api.Rules{Ticks: []api.Tick{{From: 0, Size: 5}}, Lot: 3} // rules that may not be, but for these
	for price, want := range map[int64]api.Errno{10: api.OK, 12: api.ErrTick} {
		if e := requant.Why(api.Order{Price: price, Qty: 6}, r); e != want {
			t.Error(price, int(e))
		}
	}
}

func TestP23_1WhyOfRulesThatMayNotBe(t *testing.T) {
	o := api.Order{Price: 10, Qty: 10}
	for _, ticks := range [][]api.Tick{nil, {{From: 1, Size: 1}}, {{From: 0, Size: 0}}, {{From: 0, Size: -5}}, make([]api.Tick, 9)} {
		for _, lot := range []int64{1, 0, 3} {
			if e := requant.Why(o, by(func(r *api.Rules) { r.Ticks, r.Lot = ticks, lot })); e != api.ErrTick {
				t.Error(ticks, lot, int(e))
			}
		}
	}
	for _, lot := range []int64{0, -1, api.MaxQty + 1, math.MinInt64, math.MaxInt64} {
		for _, qty := range []int64{10, 0, -1, lot} {
			if e := requant.Why(api.Order{Price: 10, Qty: qty}, steps(5, lot)); e != api.ErrArg {
				t.Error(lot, qty, int(e))
			}
		}
		if e := requant.Why(api.Order{Price: 12, Qty: 10}, steps(5, lot)); e != api.ErrTick {
			t.Error(lot, int(e))
		}
	}
	if keep, gone := requant.Plan([]api.Order{o, o}, api.Rules{}); len(keep) != 0 || !slices.Equal(gone, []api.Order{o, o}) {
		t.Error(keep, gone)
	}
}

// plans holds how orders are parted.
func plans(t *testing.T, l []api.Order, r api.Rules, keep, gone []api.Order) {
	t.Helper()
	k, g := requant.Plan(l, r)
	if !slices.Equal(k, keep) || !slices.Equal(g, gone) {
		t.Errorf("%+v\n%+v\n%+v\nnot\n%+v\n%+v", l, k, g, keep, gone)
	}
}

func TestP23_1PlanByHand(t *testing.T) {
	r := steps(5, 2)
	a, b, c := at(9, buy(1, 0, 15, 4)), at(3, sell(2, 1, 10, 2)), at(7, buy(3, 2, 5, 6)) // they fit
	u, v := at(5, buy(7, 0, 12, 4)), at(5, sell(4, 1, 10, 3))
	w, x := at(1, buy(9, 2, 11, 1)), at(math.MaxUint64, buy(0, 3, 1, 1))
	plans(t, nil, r, nil, nil)
	plans(t, []api.Order{}, r, nil, nil)
	plans(t, []api.Order{a, b, c}, r, []api.Order{a, b, c}, nil)
	plans(t, []api.Order{c, a, b}, r, []api.Order{c, a, b}, nil)
	plans(t, []api.Order{u, v, w, x}, r, nil, []api.Order{w, v, u, x})
	plans(t, []api.Order{a, x, b, u, c, v, w}, r, []api.Order{a, b, c}, []api.Order{w, v, u, x})
	plans(t, []api.Order{x, a, a, v, a}, r, []api.Order{a, a, a}, []api.Order{v, x})
	plans(t, []api.Order{u, c, u, a, u}, r, []api.Order{c, a}, []api.Order{u, u, u})
}

func TestP23_1PlanOfOneSeqAndOneID(t *testing.T) {
	r := steps(5, 1)
	var l []api.Order
	for i := range 60 { // more than a sort that is not stable would leave alone
		l = append(l, at(uint64(i%2), buy(uint64(i%3), i, 12, int64(100-i))))
	}
	var want []api.Order
	for seq := range uint64(2) {
		for id := range uint64(3) {
			for _, o := range l {
				if o.Seq == seq && o.ID == id {
					want = append(want, o)
				}
			}
		}
	}
	plans(t, l, r, nil, want)
	big := []api.Order{at(1<<63, buy(1, 0, 12, 1)), at(1<<63-1, buy(2, 0, 12, 1)), at(1<<63-1, buy(1<<63, 0, 12, 1)), at(0, buy(3, 0, 12, 1))}
	plans(t, big, r, nil, []api.Order{big[3], big[1], big[2], big[0]})
}

func TestP23_1PlanByItsWords(t *testing.T) {
	src := rand.New(rand.NewSource(231))
	for range 3000 {
		r := sample.SomeRules(src.Intn)
		var l, keep, gone []api.Order
		for range src.Intn(40) {
			o := api.Order{
				ID: uint64(src.Intn(6)), Account: src.Intn(3), Side: src.Intn(4), Price: src.Int63n(30) - 3,
				Qty: src.Int63n(14) - 3, Seq: uint64(src.Intn(6)),
			}
			l = append(l, o)
			if why(o, r) == api.OK {
				keep = append(keep, o)
				continue
			}
			i := len(gone) // ahead of those that came later
			for i > 0 && (gone[i-1].Seq > o.Seq || gone[i-1].Seq == o.Seq && gone[i-1].ID > o.ID) {
				i--
			}
			gone = slices.Insert(gone, i, o)
		}
		plans(t, l, r, keep, gone)
		for _, o := range l {
			if e := requant.Why(o, r); e != why(o, r) {
				t.Fatal(o, r, int(e))
			}
		}
	}
}

func TestP23_1WhatIsHandedInStays(t *testing.T) {
	room := []api.Order{
		at(9, buy(1, 0, 12, 1)), at(8, buy(2, 0, 10, 1)), at(7, buy(3, 0, 13, 1)), at(6, buy(4, 0, 20, 1)),
		{Qty: 77}, {Qty: 78}, {Qty: 79}, {Qty: 80},
	}
	was := slices.Clone(room)
	keep, gone := requant.Plan(room[:4], steps(5, 1))
	if !slices.Equal(room, was) {
		t.Error("what was handed in was written into")
	}
	for _, l := range [][]api.Order{keep, gone} {
		for i := range l[:cap(l)] {
			l[:cap(l)][i].Qty = 55
		}
	}
	if !slices.Equal(room, was) {
		t.Error("what is handed out is what was handed in")
	}
	keep, gone = requant.Plan(room[:4], steps(5, 1))
	_ = append(keep, api.Order{})
	if gone[0] != was[2] {
		t.Error("both lists are one")
	}
}

// turned tells a market turned to rules to which it may be.
func turned(t *testing.T, m *market.Market, r api.Rules) (*market.Market, []api.Event) {
	t.Helper()
	n, l, e := requant.Turn(m, r)
	if e != api.OK || n == nil || n == m {
		t.Fatal("not turned", int(e))
	}
	return n, l
}

// restored tells a market of a state that is sound.
func restored(t *testing.T, s market.State) *market.Market {
	t.Helper()
	m, e := market.Restore(s)
	if e != api.OK {
		t.Fatal("no market", s)
	}
	return m
}

// gone tells that an order went.
func gone(o api.Order, code api.Errno) api.Event {
	return api.Event{
		Kind: api.EvCancel, Account: o.Account, ID: o.ID, Side: o.Side, Price: o.Price, Qty: o.Qty, Code: code,
	}
}

func TestP23TheChaptersExample(t *testing.T) {
	m := sample.Rich(sample.Rules(), 100, 10)
	a, b := buy(1, 0, 12, 2), sell(2, 1, 15, 3)
	m.Apply(sample.Place(api.Limit, a))
	m.Apply(sample.Place(api.Limit, b))
	n, l := turned(t, m, steps(5, 1))
	if !slices.Equal(l, []api.Event{gone(a, api.ErrTick)}) {
		t.Error(l)
	}
	if s := n.State(); !slices.Equal(s.Orders, []api.Order{at(2, b)}) {
		t.Error(s.Orders)
	}
}

func TestP23_2TurnByHand(t *testing.T) {
	m := sample.Rich(sample.Rules(), 1000, 100)
	for _, o := range []api.Order{
		sell(8, 2, 20, 10), // 1: it trades
		buy(9, 3, 20, 10),
		sell(1, 0, 25, 10), // 3: stays
		buy(2, 0, 15, 20),  // stays
		buy(3, 0, 14, 10),  // off the grid
		sell(4, 1, 30, 7),  // no lots
		buy(5, 1, 7, 5),    // neither of both
		sell(6, 0, 31, 10), // off the grid
	} {
		m.Apply(sample.Place(api.Limit, o))
	}
	m.Apply(sample.Replace(0, 3, 13, 10)) // it comes behind all
	m.Apply(sample.Halt())
	was := m.State()
	r := steps(5, 10)
	n, l := turned(t, m, r)
	if want := []api.Event{
		gone(sell(4, 1, 30, 7), api.ErrLot), gone(buy(5, 1, 7, 5), api.ErrTick),
		gone(sell(6, 0, 31, 10), api.ErrTick), gone(buy(3, 0, 13, 10), api.ErrTick),
	}; !slices.Equal(l, want) {
		t.Errorf("%+v\nnot\n%+v", l, want)
	}
	want := market.State{Rules: r, Phase: api.Calling, Last: 20, Next: 10, Till: was.Till}
	want.Orders = []api.Order{at(4, buy(2, 0, 15, 20)), at(3, sell(1, 0, 25, 10))}
	want.Till.Purses[0] = purse.Purse{Cash: 1000, Stock: 100, HeldCash: 300, HeldStock: 10}
	want.Till.Purses[1] = purse.Purse{Cash: 1000, Stock: 100}
	if s := n.State(); !market.Same(s, want) || !market.Sound(s) {
		t.Errorf("%+v\nnot\n%+v", s, want)
	}
	if !reflect.DeepEqual(m.State(), was) {
		t.Error("the market turned")
	}
}

func TestP23_2TurnRefused(t *testing.T) {
	m := restored(t, sample.States()[1])
	was := m.State()
	bad := []api.Rules{{}}
	for _, spoil := range sample.Spoils() {
		bad = append(bad, by(spoil))
	}
	for i, r := range bad {
		if n, l, e := requant.Turn(m, r); n != nil || len(l) != 0 || e != api.ErrRules {
			t.Error(i, n, l, int(e))
		}
	}
	if !reflect.DeepEqual(m.State(), was) {
		t.Error("the market turned")
	}
	for _, none := range []*market.Market{nil, {}, new(market.Market)} {
		for _, r := range append(bad, sample.Rules()) { // that there is none comes first
			if n, l, e := requant.Turn(none, r); n != nil || len(l) != 0 || e != api.ErrNil {
				t.Error(n, l, int(e))
			}
		}
	}
}

func TestP23_2EachGoesItsOwnWay(t *testing.T) {
	m := restored(t, sample.States()[1])
	r := by(func(r *api.Rules) { r.Ticks, r.Fees = []api.Tick{{From: 0, Size: 2}}, []api.Tier{{Maker: 5, Taker: 7}} })
	n, _ := turned(t, m, r)
	was, then := m.State(), n.State()
	n.Apply(sample.Deposit(0, api.Cash, 5))
	n.Apply(sample.Place(api.Limit, sell(90, 0, 10, 5)))
	if !reflect.DeepEqual(m.State(), was) {
		t.Error("the market followed the one turned")
	}
	n, _ = turned(t, m, r)
	m.Apply(sample.Deposit(0, api.Cash, 5))
	m.Apply(sample.Place(api.Limit, sell(90, 0, 10, 5)))
	r.Ticks[0].Size, r.Fees[0].Maker = 1, 1
	if !reflect.DeepEqual(n.State(), then) {
		t.Error("the one turned followed the market, or its rules")
	}
}

func TestP23_2GreatNumbers(t *testing.T) {
	m := restored(t, sample.States()[3])
	was := m.State()
	n, l := turned(t, m, steps(api.MaxPrice, 1)) // the buyer goes
	if s := n.State(); !slices.Equal(l, []api.Event{gone(was.Orders[0], api.ErrTick)}) || s.Till.Purses[7].HeldCash != 0 || s.Till.Purses[7].HeldStock != api.MaxQty {
		t.Error(l, s)
	}
	n, l = turned(t, n, steps(3, api.MaxQty)) // the seller's lots are whole, but not its price
	if s := n.State(); len(s.Orders) != 0 || len(l) != 1 || l[0].Code != api.ErrTick || s.Till.Purses[7].HeldStock != 0 || s.Next != was.Next {
		t.Error(l, s)
	}
	n, l = turned(t, m, steps(1, 1<<31))
	if s := n.State(); len(l) != 0 || !slices.Equal(s.Orders, was.Orders) {
		t.Error(l, s)
	}
}

func TestP23_2AFullBookGoes(t *testing.T) {
	m := sample.Rich(sample.Rules(), 1000, 100)
	for i := range uint64(api.MaxOrders) {
		m.Apply(sample.Place(api.Limit, buy(100-i, int(i%8), 2+int64(i%3), 1)))
	}
	n, l := turned(t, m, steps(5, 2))
	if len(l) != api.MaxOrders || len(n.State().Orders) != 0 || n.State().Till != sample.Rich(sample.Rules(), 1000, 100).State().Till {
		t.Error(l, n.State())
	}
	for i, e := range l {
		if e.ID != 100-uint64(i) {
			t.Error(i, e)
		}
	}
}

// turnedByWords tells by the chapter's words the state of a market that is turned, and what is told of it.
func turnedByWords(s market.State, r api.Rules) (market.State, []api.Event) {
	next := market.State{Rules: r, Phase: s.Phase, Last: s.Last, Next: s.Next, Till: s.Till}
	var l []api.Event
	for _, o := range s.Orders {
		if why(o, r) == api.OK {
			next.Orders = append(next.Orders, o)
		}
	}
	for seq := range uint64(100) {
		for id := range uint64(100) {
			for _, o := range s.Orders {
				if e := why(o, r); o.Seq == seq && o.ID == id && e != api.OK {
					p := &next.Till.Purses[o.Account]
					if o.Side == api.Buy {
						p.HeldCash -= o.Price * o.Qty
					} else {
						p.HeldStock -= o.Qty
					}
					l = append(l, gone(o, e))
				}
			}
		}
	}
	return next, l
}

func TestP23_2ByItsWords(t *testing.T) {
	src := rand.New(rand.NewSource(232))
	codes := map[api.Errno]int{}
	for range 1000 {
		s := sample.SomeState(src.Intn, sample.SomeRules(src.Intn))
		m := restored(t, s)
		for range 5 {
			r := sample.SomeRules(src.Intn)
			was := m.State()
			want, events := turnedByWords(was, r)
			n, l := turned(t, m, r)
			if !slices.Equal(l, events) || !market.Same(n.State(), want) || !market.Sound(n.State()) {
				t.Fatalf("%+v\n%+v\n%+v\n%+v\nnot\n%+v\n%+v", was, r, n.State(), l, want, events)
			}
			if !reflect.DeepEqual(m.State(), was) {
				t.Fatal("the market turned", was, r)
			}
			for _, e := range l {
				codes[e.Code]++
			}
			m = n
			for range 10 {
				m.Apply(sample.SomeCommand(src.Intn, r.Lot))
			}
		}
	}
	if codes[api.ErrTick] < 500 || codes[api.ErrLot] < 500 {
		t.Error("hardly ever", codes)
	}
}

// bare tells what is there of a purse, but not what is held of it.
func bare(p purse.Purse) purse.Purse {
	p.HeldCash, p.HeldStock = 0, 0
	return p
}

func TestP23_3WhatFollows(t *testing.T) {
	src := rand.New(rand.NewSource(233))
	for range 500 {
		m := restored(t, sample.SomeState(src.Intn, sample.SomeRules(src.Intn)))
		r := sample.SomeRules(src.Intn)
		n, l := turned(t, m, r)
		s, was := n.State(), m.State()
		rank := -1
		for _, o := range s.Orders { // each as it was, in the order in which they were
			i := slices.Index(was.Orders, o)
			if i <= rank {
				t.Fatal(o, "lost its rank")
			}
			rank = i
		}
		if len(s.Orders)+len(l) != len(was.Orders) {
			t.Fatal("orders were lost")
		}
		cash, stock := purse.Totals(s.Till)
		if c, n := purse.Totals(was.Till); c != cash || n != stock || s.Till.House != was.Till.House {
			t.Fatal("a total turned")
		}
		for i, p := range s.Till.Purses {
			if bare(p) != bare(was.Till.Purses[i]) {
				t.Fatal("what somebody has turned")
			}
		}
		again, l := turned(t, n, r)
		if len(l) != 0 || !market.Same(again.State(), s) || !rules.Same(s.Rules, r) {
			t.Fatal("something went when it was turned again", l)
		}
	}
}

func TestP23_3TheOtherLayoutTellsTheSame(t *testing.T) {
	src := rand.New(rand.NewSource(234))
	for range 200 {
		r := sample.SomeRules(src.Intn)
		s := sample.SomeState(src.Intn, r)
		m := restored(t, s)
		m, _ = turned(t, m, r) // what does not fit has gone
		r.Layout = 3 - r.Layout
		n, l := turned(t, m, r)
		if len(l) != 0 {
			t.Fatal("something went", l)
		}
		for range 60 {
			c := sample.SomeCommand(src.Intn, r.Lot)
			if a, b := m.Apply(c), n.Apply(c); !slices.Equal(a, b) {
				t.Fatalf("%+v\n%+v\nnot\n%+v", c, a, b)
			}
		}
		s = n.State()
		s.Rules.Layout = 3 - r.Layout
		if !market.Same(s, m.State()) {
			t.Fatal("they went apart")
		}
	}
}

func TestP23_2SeqsBeyondTheirBound(t *testing.T) {
	for _, next := range []uint64{1<<63 - 1, 1 << 63, 1<<64 - 2, 1<<64 - 1} { // nothing is promised but that it ends
		s := sample.Rich(sample.Rules(), 1000, 100).State()
		s.Next = next
		m := restored(t, s)
		for i := range uint64(5) {
			m.Apply(sample.Place(api.Limit, buy(i, 0, 10+int64(i), 1)))
			requant.Turn(m, steps(5, 1))
		}
	}
}
