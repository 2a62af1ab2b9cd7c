package layout_test

import (
	"math"
	"math/rand"
	"slices"
	"testing"

	"jobber/api"
	"jobber/grove"
	"jobber/ladder"
	"jobber/layout"
	"jobber/order"
)

// book is what a book of either layout can be asked, whichever package has it.
type book interface {
	Add(o api.Order) api.Errno
	Get(id uint64) (api.Order, bool)
	Take(id uint64) (api.Order, bool)
	Cut(id uint64, qty int64) api.Errno
	Best(side int) (api.Order, bool)
	Level(side int, price int64) []api.Order
	Prices(side int) []int64
	All() []api.Order
	Len() int
}

// kinds are both layouts.
func kinds() []int {
	return []int{api.Ladder, api.Grove}
}

// others are numbers that are no layout.
func others() []int {
	return []int{0, 3, -1, -2, 4, 1<<32 + 1, 1<<32 + 2, math.MaxInt, math.MinInt}
}

// plain tells a book of a layout, empty, of that layout's own package.
func plain(kind int) book {
	if kind == api.Ladder {
		return ladder.New()
	}
	return grove.New()
}

// at tells an order of a side, a price, and a place; its ID is its place.
func at(side int, price int64, seq uint64) api.Order {
	return api.Order{ID: seq, Account: int(seq % 8), Side: side, Price: price, Qty: 5, Seq: seq}
}

// three are orders that are a Book.
func three() []api.Order {
	return []api.Order{at(api.Buy, 11, 3), at(api.Buy, 10, 1), at(api.Sell, 12, 2)}
}

// full tells 64 orders that are a Book.
func full() []api.Order {
	var l []api.Order
	for i := range 64 {
		l = append(l, at(1+i%2, int64(1+i*7%13), uint64(i+1)))
	}
	return order.Sorted(l)
}

// edge tells orders at the limits that are a Book.
func edge() []api.Order {
	return []api.Order{
		{ID: 0, Account: 0, Side: api.Buy, Price: 1 << 40, Qty: 1, Seq: 0},
		{ID: math.MaxUint64, Account: 7, Side: api.Buy, Price: 1 << 40, Qty: 1 << 40, Seq: math.MaxUint64},
		{ID: 4, Account: 7, Side: api.Buy, Price: 1, Qty: 1 << 40, Seq: 0},
		{ID: 2, Account: 7, Side: api.Sell, Price: 1, Qty: 1 << 40, Seq: math.MaxUint64 - 1},
		{ID: 1, Account: 0, Side: api.Sell, Price: 1, Qty: 1, Seq: math.MaxUint64},
		{ID: 3, Account: 7, Side: api.Sell, Price: 1 << 40, Qty: 1 << 40, Seq: 0},
	}
}

// good are lists of orders, each of which is a Book.
func good() [][]api.Order {
	l := [][]api.Order{nil, {}, {at(api.Buy, 10, 1)}, {at(api.Sell, 10, 1)}, three(), edge(), full()[:63], full()}
	src := rand.New(rand.NewSource(15))
	for range 30 {
		l = append(l, order.Sorted(some(src, src.Intn(65))))
	}
	return l
}

// wrong are orders that may not be, each by one number of it.
func wrong() []api.Order {
	var l []api.Order
	add := func(change func(o *api.Order)) {
		o := at(api.Buy, 10, 1)
		change(&o)
		l = append(l, o)
	}
	for _, n := range []int64{0, -1, 1<<40 + 1, math.MaxInt64, math.MinInt64} {
		add(func(o *api.Order) { o.Price = n })
		add(func(o *api.Order) { o.Qty = n })
	}
	for _, n := range []int{-1, 8, math.MaxInt, math.MinInt} {
		add(func(o *api.Order) { o.Account = n })
	}
	for _, n := range others() {
		add(func(o *api.Order) { o.Side = n })
	}
	return append(l, api.Order{})
}

// bad are lists of orders that are no Book.
func bad() [][]api.Order {
	l := [][]api.Order{
		{three()[1], three()[0], three()[2]},
		{three()[0], three()[2], three()[1]},
		{three()[0], three()[0]},
		{at(api.Buy, 10, 1), {ID: 1, Side: api.Sell, Price: 12, Qty: 5, Seq: 2}},
		append(full(), api.Order{ID: 65, Side: api.Sell, Price: 1 << 40, Qty: 1, Seq: 65}),
		make([]api.Order, 1000),
	}
	for _, o := range wrong() {
		l = append(l, []api.Order{o}, append(three()[:2:2], o))
	}
	return l
}

// some tells so many orders that chance chooses, each of its own ID, of few places, and of few prices or many.
func some(src *rand.Rand, many int) []api.Order {
	var l []api.Order
	for _, id := range src.Perm(many) {
		l = append(l, api.Order{
			ID: uint64(id), Account: src.Intn(8), Side: 1 + src.Intn(2),
			Price: 8 + src.Int63n(1+src.Int63n(50)), Qty: 1 + src.Int63n(9), Seq: uint64(src.Intn(6)),
		})
	}
	return l
}

// built tells a book of orders that are a Book.
func built(t *testing.T, kind int, l []api.Order) *layout.Book {
	t.Helper()
	b, e := layout.Build(kind, l)
	if b == nil || e != api.OK {
		t.Fatal("Build", kind, l, int(e))
	}
	return b
}

// holds holds a book against the orders that it should have, which are a Book, by the words of the chapters.
func holds(t *testing.T, b book, l []api.Order, why ...any) {
	t.Helper()
	if got := b.All(); !slices.Equal(got, l) || b.Len() != len(l) {
		t.Fatal(why, "All", got, b.Len(), l)
	}
	for _, o := range l {
		if got, ok := b.Get(o.ID); got != o || !ok {
			t.Fatal(why, "Get", o, got, ok)
		}
	}
	for _, side := range append(others(), api.Buy, api.Sell) {
		holdsSide(t, b, l, side, why)
	}
}

// holdsSide holds a side of a book against the orders that it should have.
func holdsSide(t *testing.T, b book, l []api.Order, side int, why []any) {
	t.Helper()
	l = slices.DeleteFunc(slices.Clone(l), func(o api.Order) bool { return o.Side != side })
	var best api.Order
	var prices []int64
	levels := map[int64][]api.Order{0: nil, -1: nil, 1<<40 + 1: nil, math.MaxInt64: nil, math.MinInt64: nil}
	for i, o := range l {
		if i == 0 {
			best = o
		}
		if len(levels[o.Price]) == 0 {
			prices = append(prices, o.Price)
		}
		levels[o.Price] = append(levels[o.Price], o)
	}
	if o, ok := b.Best(side); o != best || ok != (len(l) > 0) {
		t.Fatal(why, "Best", side, o, ok)
	}
	if got := b.Prices(side); !slices.Equal(got, prices) {
		t.Fatal(why, "Prices", side, got, prices)
	}
	for price, want := range levels {
		if got := b.Level(side, price); !slices.Equal(got, want) {
			t.Fatal(why, "Level", side, price, got, want)
		}
	}
}

// step asks the same of several books, by a call that chance chooses, and fails unless all tell the same.
func step(t *testing.T, src *rand.Rand, many int, books ...book) {
	t.Helper()
	o := some(src, 1)[0]
	if l := wrong(); src.Intn(8) == 0 {
		o = l[src.Intn(len(l))]
	}
	o.ID = uint64(src.Intn(many))
	call, qty := src.Intn(6), src.Int63n(8)-1
	type told struct {
		o  api.Order
		ok bool
		e  api.Errno
	}
	var first told
	for i, b := range books {
		var got told
		switch call {
		case 0:
			got.o, got.ok = b.Take(o.ID)
		case 1:
			got.e = b.Cut(o.ID, qty)
		default:
			got.e = b.Add(o)
		}
		if i == 0 {
			first = got
		}
		if got != first {
			t.Fatal("call", call, o, qty, "the book", i, got, first)
		}
	}
	for _, b := range books[1:] {
		same(t, books[0], b, o)
	}
}

// same fails unless two books tell the same, of an order's ID and its price and of all others.
func same(t *testing.T, a, b book, o api.Order) {
	t.Helper()
	one, there := a.Get(o.ID)
	if two, ok := b.Get(o.ID); one != two || there != ok {
		t.Fatal("Get", o.ID, one, there, two, ok)
	}
	for side := range 4 {
		if !slices.Equal(a.Level(side, o.Price), b.Level(side, o.Price)) {
			t.Fatal("Level", side, o.Price)
		}
	}
	holds(t, b, a.All())
	holds(t, a, b.All())
}

// parted fails unless two books that tell the same are not one: what is done to the one the other one must not tell.
func parted(t *testing.T, a, b book) {
	t.Helper()
	for range 2 {
		l := b.All()
		for _, o := range l {
			a.Cut(o.ID, 1)
			holds(t, b, l, "it was cut with the other one")
			a.Take(o.ID)
			holds(t, b, l, "it was taken with the other one")
		}
		holds(t, a, nil)
		o := api.Order{ID: 1000, Side: api.Buy, Price: 1, Qty: 1, Seq: 1000}
		if e := a.Add(o); e != api.OK {
			t.Fatal("an emptied book is none", int(e))
		}
		holds(t, b, l, "it was added to with the other one")
		a.Take(o.ID)
		for _, o := range l {
			a.Add(o)
		}
		holds(t, a, l)
		a, b = b, a
	}
}

func TestP15_1Make(t *testing.T) {
	for _, kind := range kinds() {
		a, b := layout.Make(kind), layout.Make(kind)
		if a == nil || b == nil || a == b || a.Kind() != kind {
			t.Fatal("no book of its own", kind)
		}
		holds(t, a, nil, kind)
		for _, o := range three() {
			a.Add(o)
		}
		holds(t, a, three(), kind)
		holds(t, b, nil, kind, "both are one")
	}
	for _, kind := range others() {
		if layout.Make(kind) != nil {
			t.Error(kind)
		}
	}
}

func TestP15_1Build(t *testing.T) {
	for _, kind := range kinds() {
		for _, l := range good() {
			b, e := layout.Build(kind, l)
			if b == nil || e != api.OK || b.Kind() != kind {
				t.Fatal(kind, l, int(e))
			}
			holds(t, b, l, kind)
			other, _ := layout.Build(kind, l)
			parted(t, b, other)
		}
	}
}

func TestP15_1BuildOfWhatMayNotBe(t *testing.T) {
	refused := func(kind int, l []api.Order) {
		t.Helper()
		was := slices.Clone(l)
		if b, e := layout.Build(kind, l); b != nil || e != api.ErrArg || !slices.Equal(l, was) {
			t.Error(kind, l, int(e))
		}
	}
	for _, kind := range kinds() {
		for _, l := range bad() {
			refused(kind, l)
		}
	}
	for _, kind := range others() {
		for _, l := range append(bad(), good()...) {
			refused(kind, l)
		}
	}
}

func TestP15_1BuildLeavesWhatIsHandedIn(t *testing.T) {
	for _, kind := range kinds() {
		room := append(full(), at(api.Buy, 1, 77), at(api.Buy, 1, 78))
		was := slices.Clone(room)
		l := room[:40]
		b := built(t, kind, l)
		for _, o := range was[:40] {
			b.Cut(o.ID, 2)
		}
		b.Take(l[0].ID)
		b.Add(at(api.Sell, 3, 99))
		if !slices.Equal(room, was) {
			t.Error(kind, "a book wrote into what was handed in")
		}
		b = built(t, kind, l)
		clear(room)
		holds(t, b, was[:40], kind, "a book is in memory of others")
	}
}

func TestP15_1Turn(t *testing.T) {
	for _, from := range kinds() {
		for _, to := range kinds() {
			for _, l := range good() {
				b := built(t, from, l)
				c, e := layout.Turn(b, to)
				if c == nil || e != api.OK || c == b || c.Kind() != to || b.Kind() != from {
					t.Fatal(from, to, int(e))
				}
				holds(t, c, l, from, to)
				holds(t, b, l, from, to, "it did not stay")
				parted(t, b, c)
			}
		}
	}
}

func TestP15_1TurnOfABookThatWasCut(t *testing.T) {
	for _, from := range kinds() {
		for _, to := range kinds() {
			b := layout.Make(from)
			for _, o := range []api.Order{at(api.Sell, 12, 2), at(api.Buy, 10, 1), at(api.Buy, 11, 3), at(api.Buy, 9, 4)} {
				b.Add(o)
			}
			b.Cut(1, 3)
			b.Cut(3, 5)
			b.Take(4)
			left := at(api.Buy, 10, 1)
			left.Qty = 2
			c, e := layout.Turn(b, to)
			if e != api.OK {
				t.Fatal(from, to, int(e))
			}
			holds(t, c, []api.Order{left, at(api.Sell, 12, 2)}, from, to)
			parted(t, b, c)
		}
	}
}

func TestP15_1TurnOfWhatMayNotBe(t *testing.T) {
	for _, kind := range append(others(), kinds()...) {
		for _, b := range []*layout.Book{nil, {}, new(layout.Book)} { // ErrNil is ahead of ErrArg
			if c, e := layout.Turn(b, kind); c != nil || e != api.ErrNil {
				t.Error("of none", kind, int(e))
			}
		}
	}
	for _, from := range kinds() {
		for _, kind := range others() {
			b := built(t, from, three())
			if c, e := layout.Turn(b, kind); c != nil || e != api.ErrArg {
				t.Error(from, kind, int(e))
			}
			holds(t, b, three(), from, kind)
		}
	}
}

func TestP15_1TheChaptersExample(t *testing.T) {
	c, e := layout.Turn(built(t, api.Ladder, three()), api.Grove)
	if e != api.OK || c.Kind() != api.Grove {
		t.Fatal(int(e), c.Kind())
	}
	want := []api.Order{at(api.Buy, 11, 3), at(api.Buy, 10, 1), at(api.Sell, 12, 2)}
	if got := c.All(); !slices.Equal(got, want) {
		t.Error(got)
	}
}

func TestP15_1Kind(t *testing.T) {
	for _, b := range []*layout.Book{nil, {}, new(layout.Book)} {
		if b.Kind() != 0 {
			t.Error("of none", b.Kind())
		}
	}
	for _, kind := range kinds() {
		b := built(t, kind, three())
		for _, o := range three() {
			b.Take(o.ID)
			if b.Kind() != kind || b.Clone().Kind() != kind {
				t.Error(kind, b.Kind(), b.Clone().Kind())
			}
		}
	}
}

func TestP15_2WhatThatLayoutDoes(t *testing.T) {
	for _, kind := range kinds() {
		src := rand.New(rand.NewSource(152))
		for _, many := range []int{2, 8, 40, 90, 400} {
			b, p := layout.Make(kind), plain(kind)
			most := 0
			for range 1000 {
				step(t, src, many, p, b)
				most = max(most, b.Len())
			}
			if many > 64 && most < 64 {
				t.Error("never full", kind, many, most)
			}
		}
	}
}

func TestP15_2ByHand(t *testing.T) {
	for _, kind := range kinds() {
		b := layout.Make(kind)
		for i, c := range []struct {
			got, want api.Errno
		}{
			{b.Add(at(api.Buy, 10, 2)), api.OK},
			{b.Add(at(api.Buy, 10, 1)), api.OK},
			{b.Add(at(api.Sell, 12, 7)), api.OK},
			{b.Add(at(api.Buy, 11, 3)), api.OK},
			{b.Add(at(api.Buy, 11, 3)), api.ErrThere},
			{b.Add(at(api.Sell, 0, 3)), api.ErrArg},
			{b.Cut(77, 0), api.ErrNone},
			{b.Cut(3, 0), api.ErrArg},
			{b.Cut(3, 6), api.ErrArg},
			{b.Cut(3, 5), api.OK},
			{b.Cut(3, 1), api.ErrNone},
			{b.Cut(2, 4), api.OK},
		} {
			if c.got != c.want {
				t.Error(kind, i, int(c.got), int(c.want))
			}
		}
		less := at(api.Buy, 10, 2)
		less.Qty = 1
		holds(t, b, []api.Order{at(api.Buy, 10, 1), less, at(api.Sell, 12, 7)}, kind)
		if o, ok := b.Take(1); o != at(api.Buy, 10, 1) || !ok {
			t.Error(kind, o, ok)
		}
		if o, ok := b.Take(1); o != (api.Order{}) || ok {
			t.Error(kind, o, ok)
		}
		if o, ok := b.Get(1); o != (api.Order{}) || ok {
			t.Error(kind, o, ok)
		}
		holds(t, b, []api.Order{less, at(api.Sell, 12, 7)}, kind)
	}
}

func TestP15_2WhereThereIsNoRoom(t *testing.T) {
	for _, kind := range kinds() {
		b := built(t, kind, full())
		for _, c := range []struct {
			o    api.Order
			want api.Errno
		}{
			{at(api.Buy, 4, 100), api.ErrFull},
			{at(api.Sell, 4, 100), api.ErrFull},
			{at(api.Sell, 4, 64), api.ErrThere},
			{at(api.Sell, 0, 64), api.ErrArg},
		} {
			if e := b.Add(c.o); e != c.want {
				t.Error(kind, c.o, int(e))
			}
		}
		holds(t, b, full(), kind)
	}
}

func TestP15_2Clone(t *testing.T) {
	for _, kind := range kinds() {
		for _, l := range good() {
			b := built(t, kind, l)
			c := b.Clone()
			if c == nil || c == b || c.Kind() != kind {
				t.Fatal(kind, "no other book of that layout")
			}
			holds(t, c, l, kind)
			parted(t, b, c)
		}
	}
}

// lists are all lists of orders that a book hands out.
func lists(b book) [][]api.Order {
	l := [][]api.Order{b.All()}
	for _, side := range []int{api.Buy, api.Sell} {
		for _, price := range b.Prices(side) {
			l = append(l, b.Level(side, price))
		}
	}
	return l
}

func TestP15_2WhatIsHandedOut(t *testing.T) {
	src := rand.New(rand.NewSource(1522))
	for _, kind := range kinds() {
		for range 50 {
			l := order.Sorted(some(src, 30))
			b := built(t, kind, l)
			out, was := lists(b), lists(b)
			for range 40 {
				step(t, src, 40, b)
			}
			for i := range out {
				if !slices.Equal(out[i], was[i]) {
					t.Fatal(kind, "a later call wrote into it")
				}
			}
			b = built(t, kind, l)
			for _, got := range lists(b) {
				clear(got)
				_ = append(got, api.Order{ID: 99})
			}
			for _, side := range []int{api.Buy, api.Sell} {
				clear(b.Prices(side))
			}
			holds(t, b, l, kind, "it is not the caller's own")
		}
	}
}

func TestP15_2OfNoBook(t *testing.T) {
	src := rand.New(rand.NewSource(1523))
	for _, b := range []*layout.Book{nil, {}, new(layout.Book)} {
		for _, p := range []book{(*ladder.Book)(nil), (*grove.Book)(nil)} {
			for range 200 {
				step(t, src, 3, p, b)
			}
		}
		if e := b.Add(at(api.Buy, 10, 1)); e != api.ErrNil {
			t.Error("Add", int(e))
		}
		for _, qty := range []int64{1, 0, -1, math.MaxInt64, math.MinInt64} {
			if e := b.Cut(1, qty); e != api.ErrNil {
				t.Error("Cut", qty, int(e))
			}
		}
		if o, ok := b.Take(1); ok || o != (api.Order{}) || b.Clone() != nil {
			t.Error("something is there", o)
		}
		holds(t, b, nil)
	}
}

func TestP15_3BothTellTheSame(t *testing.T) {
	src := rand.New(rand.NewSource(153))
	for _, many := range []int{2, 8, 40, 90, 400} {
		a, b := layout.Make(api.Ladder), layout.Make(api.Grove)
		for range 1000 {
			step(t, src, many, a, b)
		}
	}
}

func TestP15_3TurnedAndBack(t *testing.T) {
	src := rand.New(rand.NewSource(1532))
	for _, kind := range kinds() {
		other := api.Ladder + api.Grove - kind
		b, stays := layout.Make(kind), layout.Make(kind)
		for range 800 {
			step(t, src, 80, stays, b)
			c, e := layout.Turn(b, other)
			if e != api.OK || c.Kind() != other {
				t.Fatal(kind, int(e))
			}
			same(t, stays, c, api.Order{})
			if b, e = layout.Turn(c, kind); e != api.OK || b.Kind() != kind {
				t.Fatal(kind, int(e))
			}
			same(t, stays, b, api.Order{})
		}
	}
}
