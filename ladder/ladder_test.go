package ladder_test

import (
	"math"
	"math/rand"
	"slices"
	"testing"

	"jobber/api"
	"jobber/ladder"
	"jobber/order"
)

// at tells an order of a side, a price, and a place; its ID is its place.
func at(side int, price int64, seq uint64) api.Order {
	return api.Order{ID: seq, Account: int(seq % 8), Side: side, Price: price, Qty: 5, Seq: seq}
}

// list is a book by the chapter's words: its orders, as they are ahead of one another, the buyers first.
type list []api.Order

// before tells whether a stands before b.
func before(a, b api.Order) bool {
	switch {
	case a.Side != b.Side:
		return a.Side == api.Buy
	case a.Price != b.Price:
		return (a.Price > b.Price) == (a.Side == api.Buy)
	case a.Seq != b.Seq:
		return a.Seq < b.Seq
	}
	return a.ID < b.ID
}

// find tells the place of an ID, or -1.
func (l list) find(id uint64) int {
	return slices.IndexFunc(l, func(o api.Order) bool { return o.ID == id })
}

// add adds an order that is good.
func (l *list) add(o api.Order) api.Errno {
	if l.find(o.ID) >= 0 {
		return api.ErrThere
	}
	if len(*l) == 64 {
		return api.ErrFull
	}
	i := 0
	for i < len(*l) && before((*l)[i], o) {
		i++
	}
	*l = slices.Insert(slices.Clone(*l), i, o)
	return api.OK
}

// take takes an order away.
func (l *list) take(id uint64) (api.Order, bool) {
	i := l.find(id)
	if i < 0 {
		return api.Order{}, false
	}
	o := (*l)[i]
	*l = slices.Delete(slices.Clone(*l), i, i+1)
	return o, true
}

// cut makes an order less.
func (l *list) cut(id uint64, qty int64) api.Errno {
	i := l.find(id)
	switch {
	case i < 0:
		return api.ErrNone
	case qty < 1 || qty > (*l)[i].Qty:
		return api.ErrArg
	case qty == (*l)[i].Qty:
		l.take(id)
	default:
		*l = slices.Clone(*l)
		(*l)[i].Qty -= qty
	}
	return api.OK
}

// sides are numbers of sides, and others.
func sides() []int {
	return []int{api.Buy, api.Sell, 0, 3, -1, -2, 4, 1<<32 + 1, math.MaxInt, math.MinInt}
}

// holds holds a book against a list, call by call.
func holds(t *testing.T, b *ladder.Book, l list, why ...any) {
	t.Helper()
	if got := b.All(); !slices.Equal(got, []api.Order(l)) || b.Len() != len(l) {
		t.Fatal(why, "All", got, b.Len(), l)
	}
	if !slices.Equal(b.All(), order.Sorted(b.All())) {
		t.Fatal(why, "All is not sorted")
	}
	for _, side := range sides() {
		holdsSide(t, b, l, side, why)
	}
	for _, o := range l {
		for _, id := range []uint64{o.ID, o.ID - 1, o.ID + 1, o.Seq} {
			var want api.Order
			i := l.find(id)
			if i >= 0 {
				want = l[i]
			}
			if got, ok := b.Get(id); got != want || ok != (i >= 0) {
				t.Fatal(why, "Get", id, got, ok)
			}
		}
	}
}

// holdsSide holds a book's side against a list.
func holdsSide(t *testing.T, b *ladder.Book, l list, side int, why []any) {
	t.Helper()
	var best api.Order
	var prices []int64
	asked := []int64{0, -1, 1, 1 << 40, math.MaxInt64, math.MinInt64}
	levels := map[int64][]api.Order{}
	for _, o := range l {
		asked = append(asked, o.Price-1, o.Price, o.Price+1)
		if o.Side != side {
			continue
		}
		if len(prices) == 0 {
			best = o
		}
		if len(levels[o.Price]) == 0 {
			prices = append(prices, o.Price)
		}
		levels[o.Price] = append(levels[o.Price], o)
	}
	if o, ok := b.Best(side); o != best || ok != (len(prices) > 0) {
		t.Fatal(why, "Best", side, o, ok)
	}
	if got := b.Prices(side); !slices.Equal(got, prices) {
		t.Fatal(why, "Prices", side, got, prices)
	}
	for _, price := range asked {
		if got := b.Level(side, price); !slices.Equal(got, levels[price]) {
			t.Fatal(why, "Level", side, price, got, levels[price])
		}
	}
}

// filled tells a book of orders that are good, and the list of them.
func filled(t *testing.T, orders ...api.Order) (*ladder.Book, list) {
	t.Helper()
	b, l := ladder.New(), list{}
	for _, o := range orders {
		if e := b.Add(o); e != api.OK {
			t.Fatal("Add", o, int(e))
		}
		l.add(o)
	}
	return b, l
}

// some tells so many orders that chance chooses, each of its own ID, of few places, and of few prices or many.
func some(src *rand.Rand, many int) []api.Order {
	var l []api.Order
	for _, id := range src.Perm(many) {
		l = append(l, api.Order{
			ID: uint64(id), Account: src.Intn(8), Side: 1 + src.Intn(2),
			Price: 8 + src.Int63n(1+src.Int63n(50)), Qty: 1 + src.Int63n(9), Seq: uint64(src.Intn(6)),
		})
	}
	return l
}

// full tells 64 orders of both sides.
func full() []api.Order {
	var l []api.Order
	for i := range 64 {
		l = append(l, at(1+i%2, int64(1+i*7%13), uint64(i+1)))
	}
	return l
}

// bad are orders that may not be, each by one number of it.
func bad() []api.Order {
	var l []api.Order
	add := func(change func(o *api.Order)) {
		o := at(api.Buy, 10, 1)
		change(&o)
		l = append(l, o)
	}
	for _, n := range []int64{0, -1, 1<<40 + 1, math.MaxInt64, math.MinInt64} {
		add(func(o *api.Order) { o.Price = n })
		add(func(o *api.Order) { o.Qty = n })
	}
	for _, n := range []int{-1, 8, math.MaxInt, math.MinInt} {
		add(func(o *api.Order) { o.Account = n })
	}
	for _, n := range sides()[2:] {
		add(func(o *api.Order) { o.Side = n })
	}
	return append(l, api.Order{})
}

func TestP13_1New(t *testing.T) {
	b := ladder.New()
	if b == nil || b == ladder.New() {
		t.Fatal("no book of its own")
	}
	holds(t, b, nil, "empty")
	for _, id := range []uint64{0, 1, math.MaxUint64} {
		o, ok := b.Take(id)
		if got, there := b.Get(id); ok || there || o != (api.Order{}) || got != (api.Order{}) || b.Cut(id, 1) != api.ErrNone {
			t.Error("something is there", id)
		}
	}
}

func TestP13_1AddGoesWhereItBelongs(t *testing.T) {
	first, second, third := at(api.Sell, 7, 4), at(api.Sell, 7, 5), at(api.Sell, 7, 5)
	second.ID, third.ID = 8, 9
	other := at(api.Buy, 7, 1)
	want := []api.Order{first, second, third}
	for _, orders := range [][]api.Order{
		{first, second, third, other}, {third, second, first, other}, {other, second, third, first}, {second, other, first, third},
	} {
		b, l := filled(t, orders...)
		holds(t, b, l)
		if got := b.Level(api.Sell, 7); !slices.Equal(got, want) {
			t.Error(orders, got)
		}
	}
}

func TestP13_1AddAtTheLimits(t *testing.T) {
	b, l := filled(t,
		api.Order{ID: math.MaxUint64, Account: 7, Side: api.Buy, Price: 1 << 40, Qty: 1 << 40, Seq: math.MaxUint64},
		api.Order{ID: 0, Account: 0, Side: api.Buy, Price: 1 << 40, Qty: 1, Seq: 0},
		api.Order{ID: 1, Account: 0, Side: api.Sell, Price: 1, Qty: 1, Seq: math.MaxUint64},
		api.Order{ID: 2, Account: 7, Side: api.Sell, Price: 1, Qty: 1 << 40, Seq: math.MaxUint64 - 1},
		api.Order{ID: 3, Account: 7, Side: api.Sell, Price: 1 << 40, Qty: 1 << 40, Seq: 0},
		api.Order{ID: 4, Account: 7, Side: api.Buy, Price: 1, Qty: 1 << 40, Seq: 0},
	)
	holds(t, b, l)
	if o, _ := b.Best(api.Buy); o.ID != 0 {
		t.Error(o)
	}
	if o, _ := b.Best(api.Sell); o.ID != 2 {
		t.Error(o)
	}
}

func TestP13_1AddWhatMayNotBe(t *testing.T) {
	orders := full()
	for _, many := range []int{0, 1, 63, 64} { // ErrArg is ahead of ErrThere and of ErrFull
		b, l := filled(t, orders[:many]...)
		for _, o := range bad() {
			if e := b.Add(o); e != api.ErrArg {
				t.Error(many, o, int(e))
			}
		}
		holds(t, b, l, many)
	}
}

func TestP13_1AddWhatIsThere(t *testing.T) {
	orders := full()
	for _, many := range []int{1, 2, 63, 64} { // ErrThere is ahead of ErrFull
		b, l := filled(t, orders[:many]...)
		for _, o := range orders[:many] {
			other := api.Order{ID: o.ID, Account: 7 - o.Account, Side: 3 - o.Side, Price: o.Price + 3, Qty: 1, Seq: 1000}
			if b.Add(o) != api.ErrThere || b.Add(other) != api.ErrThere {
				t.Error(many, o)
			}
		}
		holds(t, b, l, many)
	}
}

func TestP13_1AddWhereThereIsNoRoom(t *testing.T) {
	b, l := filled(t, full()...)
	for range 2 {
		for _, side := range []int{api.Buy, api.Sell} {
			if e := b.Add(at(side, 4, 100)); e != api.ErrFull {
				t.Error(int(e))
			}
		}
		holds(t, b, l)
		b.Take(20)
		l.take(20)
		if e := b.Add(at(api.Buy, 20, 20)); e != api.OK {
			t.Error("there is room again", int(e))
		}
		l.add(at(api.Buy, 20, 20))
		holds(t, b, l)
	}
}

func TestP13_1GetAndTake(t *testing.T) {
	src := rand.New(rand.NewSource(131))
	orders := full()
	b, l := filled(t, orders...)
	for _, i := range src.Perm(len(orders)) {
		for range 2 {
			if o, ok := b.Get(orders[i].ID); o != orders[i] || !ok {
				t.Fatal("Get", orders[i], o, ok)
			}
		}
		if o, ok := b.Take(orders[i].ID); o != orders[i] || !ok {
			t.Fatal("Take", orders[i], o, ok)
		}
		l.take(orders[i].ID)
		for range 2 {
			got, there := b.Get(orders[i].ID)
			if o, ok := b.Take(orders[i].ID); ok || there || o != (api.Order{}) || got != (api.Order{}) {
				t.Fatal("it is not gone", orders[i])
			}
		}
		holds(t, b, l)
	}
	if e := b.Add(orders[0]); e != api.OK {
		t.Error("an emptied book is none", int(e))
	}
}

func TestP13_1Cut(t *testing.T) {
	b, l := filled(t, at(api.Buy, 10, 1), at(api.Buy, 10, 2), at(api.Buy, 10, 3), at(api.Buy, 9, 4), at(api.Sell, 10, 5))
	for i, c := range []struct {
		id   uint64
		qty  int64
		want api.Errno
		left int64
	}{
		{2, 3, api.OK, 2},
		{2, 3, api.ErrArg, 2},
		{2, 0, api.ErrArg, 2},
		{2, -1, api.ErrArg, 2},
		{2, math.MinInt64, api.ErrArg, 2},
		{2, math.MaxInt64, api.ErrArg, 2},
		{2, 1, api.OK, 1},
		{2, 1, api.OK, 0},
		{2, 1, api.ErrNone, 0},
		{2, 0, api.ErrNone, 0},
		{77, 0, api.ErrNone, 0},
		{77, math.MinInt64, api.ErrNone, 0},
		{1, 6, api.ErrArg, 5},
		{1, 5, api.OK, 0},
		{3, 4, api.OK, 1},
		{4, 5, api.OK, 0},
		{5, 1, api.OK, 4},
		{5, 4, api.OK, 0},
	} {
		e := b.Cut(c.id, c.qty)
		o, ok := b.Get(c.id)
		if e != c.want || e != l.cut(c.id, c.qty) || o.Qty != c.left || ok != (c.left > 0) {
			t.Error(i, c, int(e), o, ok)
		}
		holds(t, b, l, i)
	}
}

func TestP13_2TheChaptersExample(t *testing.T) {
	b, l := filled(t, at(api.Sell, 7, 1), at(api.Sell, 5, 2), at(api.Sell, 6, 3))
	if o, ok := b.Best(api.Sell); o != at(api.Sell, 5, 2) || !ok {
		t.Error(o, ok)
	}
	if got := b.Prices(api.Sell); !slices.Equal(got, []int64{5, 6, 7}) {
		t.Error(got)
	}
	holds(t, b, l)
}

func TestP13_2ByHand(t *testing.T) {
	b, _ := filled(t, at(api.Buy, 10, 2), at(api.Sell, 12, 7), at(api.Buy, 11, 3), at(api.Buy, 10, 1), at(api.Sell, 9, 8), at(api.Sell, 12, 4))
	if o, ok := b.Best(api.Buy); o != at(api.Buy, 11, 3) || !ok {
		t.Error(o, ok)
	}
	if got := b.Prices(api.Buy); !slices.Equal(got, []int64{11, 10}) {
		t.Error(got)
	}
	if got := b.Level(api.Buy, 10); !slices.Equal(got, []api.Order{at(api.Buy, 10, 1), at(api.Buy, 10, 2)}) {
		t.Error(got)
	}
	if len(b.Level(api.Sell, 10)) != 0 || len(b.Level(api.Buy, 12)) != 0 {
		t.Error("the other side's price")
	}
	want := []api.Order{at(api.Buy, 11, 3), at(api.Buy, 10, 1), at(api.Buy, 10, 2), at(api.Sell, 9, 8), at(api.Sell, 12, 4), at(api.Sell, 12, 7)}
	if got := b.All(); !slices.Equal(got, want) || b.Len() != 6 {
		t.Error(got, b.Len())
	}
}

// turn turns a book and its list by a call that chance chooses.
func turn(t *testing.T, src *rand.Rand, b *ladder.Book, l *list, many int) {
	t.Helper()
	id := uint64(src.Intn(many))
	switch src.Intn(7) {
	case 0:
		o, ok := b.Take(id)
		if want, there := l.take(id); o != want || ok != there {
			t.Fatal("Take", id, o, ok)
		}
	case 1, 2:
		qty := src.Int63n(7) - 1
		e := b.Cut(id, qty)
		if want := l.cut(id, qty); e != want {
			t.Fatal("Cut", id, qty, int(e))
		}
	default:
		o := some(src, 1)[0]
		o.ID = id
		e := b.Add(o)
		if want := l.add(o); e != want {
			t.Fatal("Add", o, int(e))
		}
	}
}

func TestP13_2ByItsWords(t *testing.T) {
	src := rand.New(rand.NewSource(132))
	for _, many := range []int{2, 8, 40, 90, 400} {
		b, l := ladder.New(), list{}
		most := 0
		for i := range 3000 {
			turn(t, src, b, &l, many)
			holds(t, b, l, many, i)
			most = max(most, len(l))
			if src.Intn(50) == 0 {
				b = b.Clone()
			}
		}
		if many > 64 && most < 64 {
			t.Error("never full", many, most)
		}
	}
}

func TestP13_2Clone(t *testing.T) {
	src := rand.New(rand.NewSource(1322))
	for range 200 {
		b, l := filled(t, some(src, src.Intn(65))...)
		c, m := b.Clone(), slices.Clone(l)
		if b == c {
			t.Fatal("it is the same one")
		}
		holds(t, c, m)
		for range 20 {
			turn(t, src, b, &l, 70)
			holds(t, c, m, "the clone turned with it")
		}
		for range 20 {
			turn(t, src, c, &m, 70)
			holds(t, b, l, "it turned with its clone")
			holds(t, c, m)
		}
	}
}

func TestP13_2CloneOfAnEmptiedOne(t *testing.T) {
	b, _ := filled(t, at(api.Buy, 10, 1))
	b.Take(1)
	for _, empty := range []*ladder.Book{b, ladder.New()} {
		c := empty.Clone()
		holds(t, c, nil)
		if e := c.Add(at(api.Buy, 10, 1)); e != api.OK || empty.Len() != 0 {
			t.Error(int(e), empty.Len())
		}
	}
}

// lists are all lists of orders that a book hands out.
func lists(b *ladder.Book) [][]api.Order {
	l := [][]api.Order{b.All()}
	for _, side := range []int{api.Buy, api.Sell} {
		for _, price := range b.Prices(side) {
			l = append(l, b.Level(side, price))
		}
	}
	return l
}

func TestP13_2WhatIsHandedOutStays(t *testing.T) {
	src := rand.New(rand.NewSource(1323))
	for range 100 {
		b, l := filled(t, some(src, 30)...)
		before, was := lists(b), lists(b)
		prices, old := b.Prices(api.Buy), b.Prices(api.Buy)
		for range 40 {
			turn(t, src, b, &l, 40)
		}
		for i := range before {
			if !slices.Equal(before[i], was[i]) {
				t.Fatal("a later call wrote into it")
			}
		}
		if !slices.Equal(prices, old) {
			t.Fatal("a later call wrote into the prices")
		}
	}
}

func TestP13_2WhatIsHandedOutIsTheCallersOwn(t *testing.T) {
	b, l := filled(t, some(rand.New(rand.NewSource(1324)), 40)...)
	for _, got := range lists(b) {
		for _, o := range got[len(got):cap(got)] {
			if o != (api.Order{}) {
				t.Error("something lies behind it", o)
			}
		}
		clear(got)
		_ = append(got, api.Order{ID: 99})
	}
	for _, side := range []int{api.Buy, api.Sell} {
		clear(b.Prices(side))
	}
	holds(t, b, l)
}

func TestP13_2OfNoBook(t *testing.T) {
	for _, b := range []*ladder.Book{nil, {}, new(ladder.Book)} {
		for range 2 {
			for _, o := range append(bad(), at(api.Buy, 10, 1), at(api.Sell, 10, 1)) {
				if e := b.Add(o); e != api.ErrNil {
					t.Error("Add", o, int(e))
				}
			}
			for _, qty := range []int64{1, 0, -1, math.MaxInt64, math.MinInt64} {
				if e := b.Cut(1, qty); e != api.ErrNil {
					t.Error("Cut", qty, int(e))
				}
			}
			for _, id := range []uint64{0, 1, math.MaxUint64} {
				got, there := b.Get(id)
				if o, ok := b.Take(id); ok || there || o != (api.Order{}) || got != (api.Order{}) {
					t.Error("something is there", id)
				}
			}
			if b.Clone() != nil {
				t.Error("it has a clone")
			}
			holds(t, b, nil)
		}
	}
}

func TestP13_3TheOrderOfAddingIsNotTold(t *testing.T) {
	src := rand.New(rand.NewSource(133))
	for range 300 {
		orders := some(src, 1+src.Intn(64))
		for i := range orders {
			orders[i].Seq = uint64(src.Intn(5)*1000 + i) // unlike ones
		}
		b, l := filled(t, orders...)
		src.Shuffle(len(orders), func(i, j int) { orders[i], orders[j] = orders[j], orders[i] })
		c, _ := filled(t, orders...)
		holds(t, b, l)
		holds(t, c, l)
	}
}

func TestP13_3OneSideDoesNotHangOnTheOther(t *testing.T) {
	src := rand.New(rand.NewSource(1332))
	for range 100 {
		var alone [3]*ladder.Book
		alone[api.Buy], alone[api.Sell] = ladder.New(), ladder.New()
		both := ladder.New()
		orders := some(src, 60)
		for _, o := range orders {
			both.Add(o)
			alone[o.Side].Add(o)
		}
		for _, o := range orders[:30] {
			both.Cut(o.ID, 2)
			alone[o.Side].Cut(o.ID, 2)
		}
		for _, o := range orders[20:40] {
			both.Take(o.ID)
			alone[o.Side].Take(o.ID)
		}
		for _, side := range []int{api.Buy, api.Sell} {
			one, _ := alone[side].Best(side)
			if o, _ := both.Best(side); o != one || !slices.Equal(both.Prices(side), alone[side].Prices(side)) {
				t.Fatal(side, o, one)
			}
			for price := range int64(60) {
				if !slices.Equal(both.Level(side, price), alone[side].Level(side, price)) {
					t.Fatal(side, price)
				}
			}
		}
		if !slices.Equal(both.All(), slices.Concat(alone[api.Buy].All(), alone[api.Sell].All())) {
			t.Fatal("All")
		}
	}
}
