package order_test

import (
	"encoding/binary"
	"math"
	"math/big"
	"math/rand"
	"reflect"
	"slices"
	"testing"

	"jobber/api"
	"jobber/codec"
	"jobber/order"
)

// at tells an order of a side, a price, and a place; its ID is its place.
func at(side int, price int64, seq uint64) api.Order {
	return api.Order{ID: seq, Account: 1, Side: side, Price: price, Qty: 5, Seq: seq}
}

// goods are orders that may be: plain ones, and ones that reach the limits.
func goods() []api.Order {
	return []api.Order{
		at(api.Buy, 10, 1),
		at(api.Sell, 11, 2),
		{ID: 0, Account: 0, Side: api.Buy, Price: 1, Qty: 1, Seq: 0},
		{ID: math.MaxUint64, Account: 7, Side: api.Sell, Price: 1 << 40, Qty: 1 << 40, Seq: math.MaxUint64},
		{ID: 77, Account: 4, Side: api.Buy, Price: 1 << 40, Qty: 1 << 22, Seq: 78},
	}
}

// wild are numbers far off, or just beside what may be.
func wild() []int64 {
	return []int64{math.MinInt64, math.MinInt64 + 1, -1 << 40, -1000, -2, -1, 0, 1<<40 + 1, 1<<40 + 2, 1 << 41, 1 << 62, math.MaxInt64 - 1, math.MaxInt64}
}

// noSides are numbers of which there is no side.
func noSides() []int { return []int{0, 3, -1, -2, 4, 1<<32 + 1, math.MaxInt, math.MinInt} }

// spoilt tells what o would be, if one number of it were one that may not be.
func spoilt(o api.Order) []api.Order {
	var l []api.Order
	add := func(change func(o *api.Order)) {
		x := o
		change(&x)
		l = append(l, x)
	}
	for _, n := range wild() {
		add(func(o *api.Order) { o.Price = n })
		add(func(o *api.Order) { o.Qty = n })
	}
	for _, n := range noSides() {
		add(func(o *api.Order) { o.Side = n })
	}
	for _, n := range []int{-1, -2, 8, 9, 100, 1 << 32, math.MaxInt, math.MinInt} {
		add(func(o *api.Order) { o.Account = n })
	}
	return l
}

func TestP12_1Good(t *testing.T) {
	for _, o := range goods() {
		if !order.Good(o) {
			t.Error("not good", o)
		}
		for account := range api.MaxAccounts {
			o.Account = account
			for _, side := range []int{api.Buy, api.Sell} {
				o.Side = side
				for _, n := range []int64{1, 2, 1000, 1<<40 - 1, 1 << 40} {
					x, y := o, o
					x.Price, y.Qty = n, n
					if !order.Good(x) || !order.Good(y) {
						t.Error("not good", x, y)
					}
				}
			}
		}
		for _, x := range spoilt(o) {
			if order.Good(x) {
				t.Error("good", x)
			}
		}
	}
	if order.Good(api.Order{}) {
		t.Error("the plain one is good")
	}
}

// numbers are prices, and others.
func numbers() []int64 { return append(wild(), 1, 2, 3, 9, 10, 11, 1<<40-1, 1<<40) }

func TestP12_1BetterAndCrosses(t *testing.T) {
	for _, a := range numbers() {
		for _, b := range numbers() {
			if order.Better(api.Buy, a, b) != (a > b) || order.Better(api.Sell, a, b) != (a < b) {
				t.Error("Better", a, b)
			}
			if order.Crosses(api.Buy, a, b) != (b <= a) || order.Crosses(api.Sell, a, b) != (b >= a) {
				t.Error("Crosses", a, b)
			}
			for _, side := range noSides() {
				if order.Better(side, a, b) || order.Crosses(side, a, b) {
					t.Error("of a side that is none", side, a, b)
				}
			}
		}
	}
}

func TestP12_1AheadByHand(t *testing.T) {
	same := at(api.Buy, 10, 5)
	same.Account, same.Qty = 3, 70
	id := at(api.Sell, 10, 5)
	id.ID = 6
	for i, c := range []struct {
		a, b   api.Order
		ab, ba bool
	}{
		{at(api.Buy, 11, 3), at(api.Buy, 10, 2), true, false},
		{at(api.Sell, 11, 3), at(api.Sell, 10, 2), false, true},
		{at(api.Buy, 10, 3), at(api.Buy, 10, 2), false, true},
		{at(api.Sell, 10, 3), at(api.Sell, 10, 2), false, true},
		{at(api.Buy, 10, 3), at(api.Buy, 10, math.MaxUint64), true, false},
		{at(api.Sell, 10, 5), id, true, false},
		{at(api.Buy, 10, 5), at(api.Buy, 10, 5), false, false},
		{at(api.Buy, 10, 5), same, false, false},
		{at(api.Buy, 11, 1), at(api.Sell, 10, 2), false, false},
		{at(api.Buy, 10, 1), at(api.Sell, 11, 2), false, false},
		{at(0, 11, 1), at(0, 10, 2), false, false},
		{at(0, 10, 1), at(0, 10, 2), false, false},
		{at(3, 10, 1), at(3, 10, 2), false, false},
		{at(-1, 10, 1), at(-1, 9, 2), false, false},
		{at(api.Buy, -5, 1), at(api.Buy, math.MinInt64, 2), true, false}, // whether they are good counts for nothing
	} {
		if order.Ahead(c.a, c.b) != c.ab || order.Ahead(c.b, c.a) != c.ba {
			t.Error(i, c.a, c.b)
		}
	}
}

func TestP12_1Hold(t *testing.T) {
	for i, c := range []struct {
		side       int
		price, qty int64
		asset      int
		n          int64
		want       api.Errno
	}{
		{api.Buy, 10, 7, api.Cash, 70, api.OK},
		{api.Sell, 10, 7, api.Stock, 7, api.OK},
		{api.Buy, 1, 1, api.Cash, 1, api.OK},
		{api.Sell, 1, 1, api.Stock, 1, api.OK},
		{api.Buy, 1 << 40, 1 << 22, api.Cash, 1 << 62, api.OK},
		{api.Buy, 1 << 22, 1 << 40, api.Cash, 1 << 62, api.OK},
		{api.Buy, 1 << 31, 1 << 31, api.Cash, 1 << 62, api.OK},
		{api.Buy, 1<<31 - 1, 1<<31 + 1, api.Cash, 1<<62 - 1, api.OK},
		{api.Buy, 1 << 40, 1<<22 + 1, 0, 0, api.ErrBig},
		{api.Buy, 1<<31 + 1, 1 << 31, 0, 0, api.ErrBig},
		{api.Buy, 1 << 32, 1 << 31, 0, 0, api.ErrBig},
		{api.Buy, 1 << 32, 1 << 32, 0, 0, api.ErrBig}, // 2^64
		{api.Buy, 1 << 40, 1 << 24, 0, 0, api.ErrBig},
		{api.Buy, 1<<32 + 1, 1<<32 - 1, 0, 0, api.ErrBig},
		{api.Buy, 1 << 40, 1 << 40, 0, 0, api.ErrBig},
		{api.Sell, 1 << 40, 1 << 40, api.Stock, 1 << 40, api.OK},
	} {
		asset, n, e := order.Hold(api.Order{Account: 2, Side: c.side, Price: c.price, Qty: c.qty})
		if asset != c.asset || n != c.n || e != c.want {
			t.Error(i, c, asset, n, int(e))
		}
	}
	for _, o := range goods() {
		for _, x := range spoilt(o) {
			if asset, n, e := order.Hold(x); asset != 0 || n != 0 || e != api.ErrArg {
				t.Error(x, asset, n, int(e))
			}
		}
	}
	huge := api.Order{Account: 9, Side: api.Buy, Price: 1 << 40, Qty: 1 << 40}
	if _, _, e := order.Hold(huge); e != api.ErrArg {
		t.Error("ErrArg is first", int(e))
	}
}

func TestP12_1HoldByItsWords(t *testing.T) {
	src := rand.New(rand.NewSource(121))
	most := big.NewInt(api.MaxMoney)
	for range 20000 {
		price, qty := 1+src.Int63n(1<<(1+src.Intn(40))), 1+src.Int63n(1<<(1+src.Intn(40)))
		exact := new(big.Int).Mul(big.NewInt(price), big.NewInt(qty))
		asset, n, e := order.Hold(api.Order{Side: api.Buy, Price: price, Qty: qty})
		if exact.Cmp(most) > 0 {
			if asset != 0 || n != 0 || e != api.ErrBig {
				t.Fatal(price, qty, asset, n, int(e))
			}
		} else if asset != api.Cash || n != exact.Int64() || e != api.OK {
			t.Fatal(price, qty, asset, n, int(e))
		}
	}
}

// ahead tells by the chapter's words whether a is ahead of b.
func ahead(a, b api.Order) bool {
	if a.Side != b.Side || a.Side != api.Buy && a.Side != api.Sell {
		return false
	}
	switch {
	case a.Price != b.Price:
		return (a.Price > b.Price) == (a.Side == api.Buy)
	case a.Seq != b.Seq:
		return a.Seq < b.Seq
	}
	return a.ID < b.ID
}

// sorted puts one order behind the other into a new list, each as far to the front as it may stand.
func sorted(l []api.Order) []api.Order {
	group := func(o api.Order) int {
		if o.Side == api.Buy || o.Side == api.Sell {
			return o.Side
		}
		return 3
	}
	var out []api.Order
	for _, o := range l {
		i := len(out)
		for i > 0 && (group(o) < group(out[i-1]) || ahead(o, out[i-1])) {
			i--
		}
		out = slices.Insert(out, i, o)
	}
	return out
}

// some tells so many orders that chance chooses, of a few sides, prices, places and IDs.
func some(src *rand.Rand, many int) []api.Order {
	var l []api.Order
	sides := []int{api.Buy, api.Sell, api.Buy, api.Sell, api.Buy, api.Sell, 0, 3, -7}
	for i := range many {
		l = append(l, api.Order{
			ID: uint64(src.Intn(3)), Account: src.Intn(8), Side: sides[src.Intn(len(sides))],
			Price: 9 + src.Int63n(3), Qty: int64(i + 1), Seq: uint64(src.Intn(3)),
		})
	}
	return l
}

func TestP12_2TheChaptersExample(t *testing.T) {
	l := []api.Order{at(api.Buy, 10, 2), at(api.Buy, 11, 3), at(api.Buy, 10, 1)}
	if got := order.Sorted(l); !slices.Equal(got, []api.Order{at(api.Buy, 11, 3), at(api.Buy, 10, 1), at(api.Buy, 10, 2)}) {
		t.Error(got)
	}
}

func TestP12_2SortedByHand(t *testing.T) {
	equal := at(api.Sell, 10, 4)
	equal.Account, equal.Qty = 6, 60
	l := []api.Order{
		at(0, 1, 9), at(api.Sell, 11, 1), at(api.Buy, 10, 2), at(3, 5, 1), at(api.Sell, 10, 4), equal,
		at(api.Sell, 10, 3), at(-4, 7, 2), at(api.Buy, 11, 8), at(0, 1, 1),
	}
	want := []api.Order{
		at(api.Buy, 11, 8), at(api.Buy, 10, 2), at(api.Sell, 10, 3), at(api.Sell, 10, 4), equal, at(api.Sell, 11, 1),
		at(0, 1, 9), at(3, 5, 1), at(-4, 7, 2), at(0, 1, 1),
	}
	if got := order.Sorted(l); !slices.Equal(got, want) {
		t.Error(got)
	}
	l[4], l[5] = l[5], l[4]
	want[3], want[4] = want[4], want[3]
	if got := order.Sorted(l); !slices.Equal(got, want) {
		t.Error("equal ones do not stay in their order", got)
	}
	for _, none := range [][]api.Order{nil, {}} {
		if len(order.Sorted(none)) != 0 {
			t.Error("of nobody")
		}
	}
}

func TestP12_2SortedByItsWords(t *testing.T) {
	src := rand.New(rand.NewSource(122))
	for i := range 3000 {
		l := some(src, i%70)
		if got, want := order.Sorted(l), sorted(l); !slices.Equal(got, want) {
			t.Fatal(l, got, want)
		}
	}
	l := some(src, 1000) // more than a book has
	if !slices.Equal(order.Sorted(l), sorted(l)) {
		t.Error("a long list")
	}
}

func TestP12_2SortedLeavesItsList(t *testing.T) {
	src := rand.New(rand.NewSource(22))
	whole := some(src, 40)
	l, old := whole[:20], slices.Clone(whole)
	got := order.Sorted(l)
	want := slices.Clone(got)
	if !slices.Equal(whole, old) {
		t.Error("what was handed in is changed")
	}
	order.Book(l)
	order.Bytes(l)
	got = append(got, at(api.Buy, 1, 1))
	clear(got)
	if !slices.Equal(whole, old) {
		t.Error("it shares its memory")
	}
	got = order.Sorted(l)
	clear(l)
	if !slices.Equal(got, want) {
		t.Error("it shares its memory")
	}
	for _, o := range got[len(got):cap(got)] {
		if o != (api.Order{}) {
			t.Error("something lies behind it", o)
		}
	}
	book := []api.Order{at(api.Buy, 10, 1), at(api.Buy, 11, 2)} // as a whole no book
	if sorted := order.Sorted(book[:1]); len(sorted) != 1 || !order.Book(book[:1]) || len(order.Bytes(book[:1])) != 7 {
		t.Error("what lies behind a list counts")
	}
}

// ladder tells a book of so many orders, half of them buyers.
func ladder(many int) []api.Order {
	var l []api.Order
	for i := range many {
		o := at(api.Buy, int64(1000-i/3), uint64(i+1))
		if i >= many/2 {
			o.Side, o.Price = api.Sell, int64(900+i/3) // it crosses the buyers, and that counts for nothing
		}
		o.Account, o.Qty = i%api.MaxAccounts, int64(i+1)
		l = append(l, o)
	}
	return l
}

func TestP12_2Book(t *testing.T) {
	for _, many := range []int{0, 1, 2, 3, 10, 63, 64} {
		if !order.Book(ladder(many)) {
			t.Error("no book", many)
		}
	}
	if !order.Book(nil) {
		t.Error("of nobody")
	}
	for _, many := range []int{65, 66, 200} {
		if order.Book(ladder(many)) {
			t.Error("a book", many)
		}
	}
	l := ladder(20)
	for i := range l {
		for _, x := range spoilt(l[i]) {
			l := slices.Clone(l)
			l[i] = x
			if order.Book(l) || order.Book(order.Sorted(l)) {
				t.Fatal("a book, though one is not good", i, x)
			}
		}
		for j := range i {
			swapped := slices.Clone(l)
			swapped[i], swapped[j] = l[j], l[i]
			if order.Book(swapped) {
				t.Fatal("a book, though two are out of order", i, j)
			}
			twice := slices.Clone(l)
			twice[i].ID = l[j].ID
			if order.Book(twice) || order.Book(order.Sorted(twice)) {
				t.Fatal("a book, though two have one ID", i, j)
			}
		}
	}
}

func TestP12_2BookOfOneSeq(t *testing.T) {
	one, two := at(api.Sell, 10, 5), at(api.Sell, 10, 5)
	two.ID = 9
	if !order.Book([]api.Order{one, two}) || order.Book([]api.Order{two, one}) {
		t.Error("of one Seq the lesser ID is ahead")
	}
	buyer := at(api.Buy, 10, 7)
	buyer.ID = 5
	if order.Book([]api.Order{buyer, one}) || order.Book([]api.Order{one, two, buyer}) {
		t.Error("a buyer and a seller have one ID, or stand the wrong way round")
	}
	buyer.ID = 6
	if !order.Book([]api.Order{buyer, one, two}) {
		t.Error("no book")
	}
}

func TestP12_2BookByItsWords(t *testing.T) {
	src := rand.New(rand.NewSource(223))
	books := 0
	for range 60000 {
		l := some(src, src.Intn(5))
		want := slices.Equal(l, sorted(l))
		for i, o := range l {
			good := o.Side == 1 || o.Side == 2
			want = want && good
			for _, x := range l[:i] {
				want = want && o.ID != x.ID
			}
		}
		if order.Book(l) != want {
			t.Fatal(l, !want)
		}
		if want && len(l) > 1 {
			books++
		}
	}
	if books < 300 {
		t.Error("hardly ever a book:", books)
	}
}

// bytesOf tells orders' bytes by another library.
func bytesOf(l []api.Order) []byte {
	b := binary.AppendUvarint(nil, uint64(len(l)))
	for _, o := range l {
		b = binary.AppendUvarint(b, o.ID)
		for _, n := range []int64{int64(o.Account), int64(o.Side), o.Price, o.Qty} {
			b = binary.AppendVarint(b, n)
		}
		b = binary.AppendUvarint(b, o.Seq)
	}
	return b
}

// books are lists that are books.
func books() [][]api.Order {
	top := []api.Order{
		{ID: math.MaxUint64, Account: 7, Side: api.Buy, Price: 1 << 40, Qty: 1 << 40, Seq: math.MaxUint64},
		{ID: 0, Account: 0, Side: api.Sell, Price: 1, Qty: 1, Seq: 0},
	}
	return [][]api.Order{nil, ladder(1), ladder(2), ladder(7), ladder(63), ladder(64), top}
}

func TestP12_3BytesByHand(t *testing.T) {
	l := []api.Order{
		{ID: 300, Account: 3, Side: api.Buy, Price: 10, Qty: 70, Seq: 2},
		{ID: 1, Account: -1, Side: api.Sell, Price: -3, Qty: 0, Seq: 200},
	}
	want := []byte{2, 172, 2, 6, 2, 20, 140, 1, 2, 1, 1, 4, 5, 0, 200, 1}
	if b := order.Bytes(l); !slices.Equal(b, want) {
		t.Error(b)
	}
	for _, none := range [][]api.Order{nil, {}} {
		if b := order.Bytes(none); !slices.Equal(b, []byte{0}) {
			t.Error(b)
		}
	}
}

func TestP12_3Bytes(t *testing.T) {
	src := rand.New(rand.NewSource(123))
	odd := []api.Order{{Account: math.MinInt, Side: math.MaxInt, Price: math.MinInt64, Qty: math.MaxInt64}}
	for _, l := range append(books(), odd, spoilt(goods()[0]), some(src, 200), ladder(300)) {
		if b := order.Bytes(l); !slices.Equal(b, bytesOf(l)) {
			t.Error(l, b)
		}
	}
}

func TestP12_3Read(t *testing.T) {
	for i, l := range books() {
		d := codec.Open(slices.Concat([]byte{9}, bytesOf(l), bytesOf(l), []byte{5, 6}))
		d.Nat(9)
		for range 2 {
			if got, ok := order.Read(d); !ok || !slices.Equal(got, l) {
				t.Error(i, got, ok)
			}
		}
		if d.Bad() || d.Left() != 2 {
			t.Error(i, d.Bad(), d.Left())
		}
	}
}

// none holds that nothing is read, and that the reader is bad then.
func none(t *testing.T, d *codec.Reader, why ...any) {
	t.Helper()
	if l, ok := order.Read(d); ok || len(l) != 0 {
		t.Error(why, l, ok)
	}
	if d != nil && (!d.Bad() || d.Left() != 0 || d.End() != api.ErrForm) {
		t.Error(why, "the reader is good")
	}
}

func TestP12_3ReadWhereNoneIs(t *testing.T) {
	none(t, nil, "nil")
	none(t, &codec.Reader{}, "plain")
	none(t, codec.Open(nil), "of nothing")
	for i, l := range books() {
		b := bytesOf(l)
		for n := range b {
			none(t, codec.Open(b[:n]), i, "cut at", n)
		}
		bad := codec.Open(b)
		bad.Fail()
		none(t, bad, "bad ahead of it")
		none(t, codec.Open(append([]byte{b[0] | 0x80, 0}, b[1:]...)), "another form")
	}
	for _, many := range [][]byte{{65}, {255, 255, 255, 255, 255, 255, 255, 255, 255, 1}, {255, 255, 255, 255, 15}} {
		none(t, codec.Open(append(many, make([]byte, 600)...)), "many")
	}
}

func TestP12_3ReadOfOnesThatMayNotBe(t *testing.T) {
	for _, many := range []int{65, 66, 128, 300} {
		none(t, codec.Open(append(bytesOf(ladder(many)), 1)), many)
	}
	l := ladder(9)
	for i := range l {
		for _, x := range spoilt(l[i]) {
			l := slices.Clone(l)
			l[i] = x
			none(t, codec.Open(append(bytesOf(l), 1)), i, x)
		}
		for j := range i {
			swapped := slices.Clone(l)
			swapped[i], swapped[j] = l[j], l[i]
			none(t, codec.Open(append(bytesOf(swapped), 1)), "out of order", i, j)
			twice := slices.Clone(l)
			twice[i].ID = l[j].ID
			none(t, codec.Open(append(bytesOf(twice), 1)), "one ID", i, j)
		}
	}
}

func TestP12_3ReadHasMemoryOfItsOwn(t *testing.T) {
	b := bytesOf(ladder(5))
	one, _ := order.Read(codec.Open(b))
	two, _ := order.Read(codec.Open(b))
	clear(one)
	clear(b)
	if !slices.Equal(two, ladder(5)) {
		t.Error(two)
	}
}

func TestP12_3WhatIsReadWrittenAgainIsThoseBytes(t *testing.T) {
	src := rand.New(rand.NewSource(321))
	read := 0
	for range 40000 {
		b := bytesOf(ladder(1 + src.Intn(4)))
		for range 1 + src.Intn(2) {
			b[src.Intn(len(b))] = byte(src.Intn(256))
		}
		d := codec.Open(b)
		l, ok := order.Read(d)
		if !ok {
			continue
		}
		read++
		if !order.Book(l) || !slices.Equal(order.Bytes(l), b[:len(b)-d.Left()]) {
			t.Fatal(b, l)
		}
	}
	if read < 1000 {
		t.Error("hardly anything was read:", read)
	}
}

func TestP12_4JustOneIsAhead(t *testing.T) {
	src := rand.New(rand.NewSource(124))
	l := append(some(src, 120), goods()...)
	for _, a := range l {
		for _, b := range l {
			one := order.Good(at(a.Side, 1, 1)) && a.Side == b.Side
			differ := a.Price != b.Price || a.Seq != b.Seq || a.ID != b.ID
			ab, ba := order.Ahead(a, b), order.Ahead(b, a)
			if ab && ba || (ab || ba) != (one && differ) || ab != ahead(a, b) {
				t.Fatal(a, b, ab, ba)
			}
			if !ab {
				continue
			}
			for _, c := range l {
				if order.Ahead(b, c) && !order.Ahead(a, c) {
					t.Fatal(a, b, c)
				}
			}
		}
	}
}

func TestP12_4WhatIsSortedStaysSo(t *testing.T) {
	src := rand.New(rand.NewSource(412))
	for i := range 1000 {
		once := order.Sorted(some(src, i%100))
		if twice := order.Sorted(once); !slices.Equal(once, twice) {
			t.Fatal(once, twice)
		}
	}
	for _, l := range books() {
		if !slices.Equal(order.Sorted(l), l) {
			t.Error("a book is not sorted", l)
		}
		shuffled := slices.Clone(l)
		src.Shuffle(len(shuffled), reflect.Swapper(shuffled))
		if !slices.Equal(order.Sorted(shuffled), l) {
			t.Error("sorted another way", l)
		}
	}
}
