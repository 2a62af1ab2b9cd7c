package share_test

import (
	"math"
	"math/big"
	"math/rand"
	"slices"
	"testing"

	"jobber/api"
	"jobber/share"
)

const (
	topQty   = 1 << 40
	topMoney = 1 << 62
)

// of tells orders of some quantities.
func of(qtys ...int64) []api.Order {
	var l []api.Order
	for i, n := range qtys {
		l = append(l, api.Order{ID: uint64(i), Side: api.Buy, Price: 10, Qty: n, Seq: uint64(i)})
	}
	return l
}

// many tells so many orders of one quantity.
func many(n int, qty int64) []api.Order {
	return of(slices.Repeat([]int64{qty}, n)...)
}

// lots tells how many whole lots a quantity from 0 on has.
func lots(qty, lot int64) int64 {
	return qty / lot
}

// byWords tells by the chapter's words what each gets, of arguments that may be; all is reckoned in lots.
func byWords(mode int, l []api.Order, qty, lot int64) []int64 {
	var has, gets []int64
	total := int64(0)
	for _, o := range l {
		has, gets = append(has, lots(o.Qty, lot)), append(gets, 0)
		total += lots(o.Qty, lot)
	}
	want := lots(qty, lot)
	if want >= total {
		copy(gets, has)
		want = 0
	}
	if left := want; mode == api.ByShare && left > 0 {
		for i := range has {
			part := new(big.Int).Mul(big.NewInt(left), big.NewInt(has[i]))
			gets[i] = part.Div(part, big.NewInt(total)).Int64()
			want -= gets[i]
		}
	}
	for i := range has {
		more := min(want, has[i]-gets[i])
		gets[i] += more
		want -= more
	}
	for i := range gets {
		gets[i] *= lot
	}
	return gets
}

// wild tells numbers that no limit of a quantity lets be.
func wild() []int64 {
	return []int64{-1, -2, -1000, math.MinInt64, math.MinInt64 + 1, topQty + 1, 2 * topQty, math.MaxInt64 - 1, math.MaxInt64}
}

// modes are both priorities.
func modes() []int {
	return []int{api.ByTime, api.ByShare}
}

func TestP16_1Total(t *testing.T) {
	for i, c := range []struct {
		l         []api.Order
		lot, want int64
	}{
		{nil, 1, 0},
		{[]api.Order{}, 1, 0},
		{of(0), 1, 0},
		{of(0, 0, 0), 5, 0},
		{of(1), 1, 1},
		{of(6, 6, 3), 1, 15},
		{of(6, 6, 3), 3, 15},
		{of(6, 6, 3), 4, 8}, // each one in whole lots, not all of them together
		{of(6, 6, 3), 6, 12},
		{of(6, 6, 3), 7, 0},
		{of(9, 0, 11), 10, 10},
		{of(topQty), 1, topQty},
		{of(topQty), topQty, topQty},
		{of(topQty - 1), topQty, 0},
		{of(topQty, topQty-1, 7), topQty, topQty},
		{of(topQty), 3, topQty - 1}, // 2^40 leaves 1
		{many(64, topQty), 1, 64 * topQty},
		{many(64, topQty), topQty - 1, 64 * (topQty - 1)},
		{many(65, 1), 1, 0},
		{many(65, 0), 1, 0},
		{many(1000, topQty), 1, 0},
	} {
		if got := share.Total(c.l, c.lot); got != c.want {
			t.Error(i, got, c.want)
		}
	}
}

func TestP16_1TotalOfWhatMayNotBe(t *testing.T) {
	for _, lot := range append(wild(), 0) {
		for _, l := range [][]api.Order{nil, of(1), of(6, 6, 3), many(64, topQty)} {
			if got := share.Total(l, lot); got != 0 {
				t.Error("lot", lot, got)
			}
		}
	}
	for _, qty := range wild() {
		for _, l := range [][]api.Order{of(qty), of(6, qty, 3), of(qty, 6), of(6, qty), of(qty, qty)} {
			for _, lot := range []int64{1, 2, 7, 1 << 20, topQty} { // 2^40 + 1 is no more than 2^40 in lots of 2
				if got := share.Total(l, lot); got != 0 {
					t.Error("quantity", qty, lot, got)
				}
			}
		}
	}
}

func TestP16_1OnlyQuantitiesCount(t *testing.T) {
	l := []api.Order{{Qty: 6}, {ID: 9, Account: -1, Side: 7, Price: -4, Qty: 6, Seq: 9}, {ID: 9, Side: 1, Qty: 3}}
	if got := share.Total(l, 1); got != 15 {
		t.Error(got)
	}
	if got := share.Share(api.ByShare, l, 10, 1); !slices.Equal(got, []int64{4, 4, 2}) {
		t.Error(got)
	}
}

func TestP16_2TheChaptersExample(t *testing.T) {
	l := of(6, 6, 3)
	if got := share.Share(api.ByShare, l, 10, 1); !slices.Equal(got, []int64{4, 4, 2}) {
		t.Error(got)
	}
	if got := share.Share(api.ByShare, l, 10, 3); !slices.Equal(got, []int64{6, 3, 0}) {
		t.Error(got)
	}
	if got := share.Share(api.ByTime, l, 10, 1); !slices.Equal(got, []int64{6, 4, 0}) {
		t.Error(got)
	}
}

func TestP16_2ByHand(t *testing.T) {
	for i, c := range []struct {
		l            []api.Order
		qty, lot     int64
		time, shared []int64
	}{
		{of(5), 1, 1, []int64{1}, []int64{1}},
		{of(5), 5, 1, []int64{5}, []int64{5}},
		{of(5), 6, 1, []int64{5}, []int64{5}},
		{of(5), topMoney, 1, []int64{5}, []int64{5}},
		{of(6, 6, 3), 15, 1, []int64{6, 6, 3}, []int64{6, 6, 3}},
		{of(6, 6, 3), 16, 1, []int64{6, 6, 3}, []int64{6, 6, 3}},
		{of(6, 6, 3), 14, 1, []int64{6, 6, 2}, []int64{6, 6, 2}},
		{of(6, 6, 3), 1, 1, []int64{1, 0, 0}, []int64{1, 0, 0}},
		{of(6, 6, 3), 2, 1, []int64{2, 0, 0}, []int64{2, 0, 0}}, // no part is 1: all goes to the first one
		{of(6, 6, 3), 12, 1, []int64{6, 6, 0}, []int64{6, 4, 2}},
		{of(1, 1, 1, 1), 3, 1, []int64{1, 1, 1, 0}, []int64{1, 1, 1, 0}}, // the first one has no more than 1
		{of(0, 4, 0, 4), 4, 1, []int64{0, 4, 0, 0}, []int64{0, 2, 0, 2}},
		{of(0, 4, 0, 4), 5, 1, []int64{0, 4, 0, 1}, []int64{0, 3, 0, 2}},
		{of(15, 29, 45), 40, 10, []int64{10, 20, 10}, []int64{10, 10, 20}}, // 4 of 1, 2 and 4 lots
		{of(15, 29, 45), 49, 10, []int64{10, 20, 10}, []int64{10, 10, 20}}, // 49 are 4 lots
		{of(15, 29, 10), 40, 10, []int64{10, 20, 10}, []int64{10, 20, 10}}, // as much as all have
		{of(15, 29, 10), 1000, 10, []int64{10, 20, 10}, []int64{10, 20, 10}},
		{of(15, 9, 10), 15, 10, []int64{10, 0, 0}, []int64{10, 0, 0}},
		{of(9, 15, 10), 15, 10, []int64{0, 10, 0}, []int64{0, 10, 0}}, // the first one has no lot
		{of(15, 29, 10), 9, 10, []int64{0, 0, 0}, []int64{0, 0, 0}},   // less than a lot
		{of(topQty, topQty), topQty + 1, 1, []int64{topQty, 1}, []int64{topQty/2 + 1, topQty / 2}},
		{of(topQty, topQty), topQty, topQty, []int64{topQty, 0}, []int64{topQty, 0}},
		{of(1, topQty), topQty, 1, []int64{1, topQty - 1}, []int64{1, topQty - 1}},
	} {
		if got := share.Share(api.ByTime, c.l, c.qty, c.lot); !slices.Equal(got, c.time) {
			t.Error(i, "by time", got, c.time)
		}
		if got := share.Share(api.ByShare, c.l, c.qty, c.lot); !slices.Equal(got, c.shared) {
			t.Error(i, "by share", got, c.shared)
		}
	}
}

func TestP16_2OfWhatMayNotBe(t *testing.T) {
	none := func(mode int, l []api.Order, qty, lot int64) {
		t.Helper()
		if got := share.Share(mode, l, qty, lot); len(got) != 0 {
			t.Error(mode, l, qty, lot, got)
		}
	}
	for _, mode := range []int{0, 3, -1, -2, 4, 1<<32 + 1, math.MaxInt, math.MinInt} {
		none(mode, of(6, 6, 3), 10, 1)
		none(mode, of(6, 6, 3), 100, 1)
	}
	for _, mode := range modes() {
		for _, qty := range []int64{0, -1, -10, math.MinInt64, topMoney + 1, math.MaxInt64} {
			none(mode, of(6, 6, 3), qty, 1)
			none(mode, of(6, 6, 3), qty, 3)
		}
		for _, n := range wild() {
			none(mode, of(6, 6, 3), 10, n)
			none(mode, of(6, n, 3), 10, 1)
			none(mode, of(6, n), topMoney, 1)
			none(mode, of(n, 6), 1, 1)
		}
		none(mode, of(6, 6, 3), 10, 0)
		for _, l := range [][]api.Order{nil, {}, of(0), of(0, 0), many(65, 1), many(1000, topQty)} {
			none(mode, l, 1, 1)
			none(mode, l, topMoney, 1)
		}
		none(mode, of(6, 6, 3), 10, 7) // nobody has a lot
	}
}

// some tells orders that chance chooses, of few quantities or of very many, and a lot and a quantity that fit them.
func some(src *rand.Rand) (l []api.Order, qty, lot int64) {
	most := int64(1) << src.Intn(41)
	for range 1 + src.Intn(64) {
		l = append(l, api.Order{Qty: src.Int63n(most + 1)})
	}
	lot = 1 + src.Int63n(1+most/(1<<src.Intn(10)))
	lot = min(lot, topQty)
	qty = 1 + src.Int63n(most*int64(len(l))+lot)
	return l, qty, lot
}

func TestP16_2ByItsWords(t *testing.T) {
	src := rand.New(rand.NewSource(162))
	for range 20000 {
		l, qty, lot := some(src)
		for _, mode := range modes() {
			want := byWords(mode, l, qty, lot)
			if share.Total(l, lot) == 0 {
				want = nil
			}
			if got := share.Share(mode, l, qty, lot); !slices.Equal(got, want) {
				t.Fatal(mode, l, qty, lot, got, want)
			}
		}
	}
}

func TestP16_2AtTheLimits(t *testing.T) {
	for _, mode := range modes() {
		for _, lot := range []int64{1, 2, 3, 999, 1 << 20, topQty/2 + 1, topQty - 1, topQty} {
			for _, qty := range []int64{1, 2, lot, lot + 1, topQty - 1, topQty, topQty + 1, 63 * topQty, 64*topQty - 1, 64 * topQty, 64*topQty + 1, topMoney - 1, topMoney} {
				for _, n := range []int{1, 2, 63, 64} {
					l := many(n, topQty)
					l[n/2].Qty--
					want := byWords(mode, l, qty, lot)
					if share.Total(l, lot) == 0 {
						want = nil
					}
					if got := share.Share(mode, l, qty, lot); !slices.Equal(got, want) {
						t.Fatal(mode, lot, qty, n, got, want)
					}
				}
			}
		}
	}
}

func TestP16_2WhatIsHandedInStays(t *testing.T) {
	room := of(6, 6, 3, 100, 100)
	was := slices.Clone(room)
	for _, mode := range modes() {
		first := share.Share(mode, room[:3], 10, 1)
		second := share.Share(mode, room[:3], 10, 1)
		if !slices.Equal(room, was) || !slices.Equal(first, second) {
			t.Error(mode, first, second)
		}
		clear(first)
		if slices.Equal(first, second) {
			t.Error(mode, "two answers share a list")
		}
	}
}

// atLeast tells whether what one gets of qty is no less than its part of total, but for less than a lot.
func atLeast(gets, qty, has, total, lot int64) bool {
	part := new(big.Int).Mul(big.NewInt(qty), big.NewInt(has))
	high := new(big.Int).Mul(big.NewInt(gets+lot), big.NewInt(total))
	return part.Cmp(high) < 0
}

func TestP16_3WhatFollows(t *testing.T) {
	src := rand.New(rand.NewSource(163))
	for range 20000 {
		l, qty, lot := some(src)
		total := share.Total(l, lot)
		if total == 0 {
			continue
		}
		all := min(lots(qty, lot)*lot, total)
		for _, mode := range modes() {
			got := share.Share(mode, l, qty, lot)
			if len(got) != len(l) {
				t.Fatal(mode, l, qty, lot, got)
			}
			sum := int64(0)
			for i, n := range got {
				sum += n
				has := lots(l[i].Qty, lot) * lot
				if n < 0 || n > has || n%lot != 0 {
					t.Fatal("more than it has, or no lots", mode, l, qty, lot, got)
				}
				if mode == api.ByShare && !atLeast(n, all, has, total, lot) {
					t.Fatal("less than its part", l, qty, lot, got)
				}
			}
			if sum != all {
				t.Fatal("not all of it", mode, l, qty, lot, got)
			}
		}
	}
}
