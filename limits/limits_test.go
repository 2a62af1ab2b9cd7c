package limits_test

import (
	"math"
	"math/big"
	"slices"
	"testing"

	"jobber/api"
	"jobber/limits"
)

const (
	topPrice = api.MaxPrice
	topQty   = api.MaxQty
	million  = api.Million
)

// wild tells numbers that no limit lets be.
func wild() []int64 {
	return []int64{-1, -2, -1000, math.MinInt64, math.MinInt64 + 1, 1<<40 + 1, 1 << 41, 1 << 62, math.MaxInt64 - 1, math.MaxInt64}
}

// some tells numbers from 1 to a limit, all small ones and those beside each bit among them.
func some(most int64) []int64 {
	var l []int64
	for n := int64(1); n < 25; n++ {
		l = append(l, n, most+1-n, most/2+n)
	}
	for bit := range 41 {
		l = append(l, 1<<bit-1, 1<<bit, 1<<bit+1)
	}
	l = append(l, 99, 100, 101, 999, 1000, 1001, 123456789, 999983)
	l = slices.DeleteFunc(l, func(n int64) bool { return n < 1 || n > most })
	slices.Sort(l)
	return slices.Compact(l)
}

// within tells by the chapter's words, exactly, whether a price is within a band.
func within(last, price, band int64) bool {
	if last == 0 || band == 0 {
		return true
	}
	way := new(big.Int).Sub(big.NewInt(price), big.NewInt(last))
	way.Abs(way).Mul(way, big.NewInt(million))
	return way.Cmp(new(big.Int).Mul(big.NewInt(last), big.NewInt(band))) <= 0
}

func TestP7_1LotByHand(t *testing.T) {
	for _, c := range []struct {
		lot, qty int64
		want     api.Errno
	}{
		{1, 1, api.OK},
		{1, topQty, api.OK},
		{10, 10, api.OK},
		{10, 30, api.OK},
		{10, 35, api.ErrLot},
		{10, 9, api.ErrLot},
		{10, 1, api.ErrLot},
		{3, topQty, api.ErrLot}, // 2^40 leaves 1
		{3, topQty - 1, api.OK},
		{topQty, topQty, api.OK},
		{topQty, topQty - 1, api.ErrLot},
		{topQty - 1, topQty - 1, api.OK},
		{10, 0, api.ErrLot}, // a multiple, and no quantity
		{10, -10, api.ErrLot},
		{1, topQty + 1, api.ErrLot},
		{topQty, 2 * topQty, api.ErrLot},
		{0, 10, api.ErrArg},
		{-1, 10, api.ErrArg},
		{-10, -10, api.ErrArg},
		{topQty + 1, topQty + 1, api.ErrArg},
		{0, 0, api.ErrArg}, // the lot is named ahead of the quantity
		{math.MinInt64, math.MaxInt64, api.ErrArg},
	} {
		if e := limits.Lot(c.lot, c.qty); e != c.want {
			t.Errorf("Lot(%d, %d) = %d, want %d", c.lot, c.qty, int(e), int(c.want))
		}
	}
}

func TestP7_1LotByItsWords(t *testing.T) {
	for lot := int64(-5); lot < 40; lot++ {
		for qty := int64(-90); qty < 200; qty++ {
			want := api.ErrLot
			for many := int64(1); many*max(lot, 1) <= qty; many++ {
				if many*lot == qty {
					want = api.OK
				}
			}
			if lot < 1 {
				want = api.ErrArg
			}
			if e := limits.Lot(lot, qty); e != want {
				t.Fatalf("Lot(%d, %d) = %d, want %d", lot, qty, int(e), int(want))
			}
		}
	}
}

func TestP7_1LotOfWildOnes(t *testing.T) {
	for _, no := range wild() {
		for _, n := range append(wild(), 0, 1, 7, topQty) {
			if e := limits.Lot(no, n); e != api.ErrArg {
				t.Error("a lot of", no, n, int(e))
			}
		}
		for _, lot := range some(topQty) {
			if e := limits.Lot(lot, no); e != api.ErrLot {
				t.Error("lots of", lot, no, int(e))
			}
		}
	}
}

func TestP7_1TrimByHand(t *testing.T) {
	const top, low = math.MaxInt64, math.MinInt64
	for _, c := range []struct{ lot, qty, want int64 }{
		{1, 1, 1},
		{1, 7, 7},
		{10, 35, 30},
		{10, 30, 30},
		{10, 9, 0},
		{10, 10, 10},
		{10, 11, 10},
		{10, 0, 0},
		{10, -1, 0},
		{10, -35, 0},
		{0, 35, 0},
		{-10, 35, 0},
		{-10, -35, 0},
		{3, topQty, topQty - 1},
		{topQty, topQty, topQty},
		{topQty, topQty - 1, 0},
		{topQty + 1, topQty + 5, topQty + 1}, // no limit is named here
		{topQty, 1<<62 + 5, 1 << 62},
		{1, top, top},
		{2, top, top - 1},
		{top, top, top},
		{top, top - 1, 0},
		{top - 1, top, top - 1},
		{low, 5, 0},
		{5, low, 0},
		{low, low, 0},
		{-1, low, 0}, // low by -1 has no room
	} {
		if n := limits.Trim(c.lot, c.qty); n != c.want {
			t.Errorf("Trim(%d, %d) = %d, want %d", c.lot, c.qty, n, c.want)
		}
	}
}

func TestP7_2BandByHand(t *testing.T) {
	for _, c := range []struct {
		last, price, band int64
		want              api.Errno
	}{
		{1000, 1000, 50000, api.OK},
		{1000, 950, 50000, api.OK},
		{1000, 1050, 50000, api.OK},
		{1000, 949, 50000, api.ErrBand},
		{1000, 1051, 50000, api.ErrBand},
		{1000, topPrice, 50000, api.ErrBand},
		{1000, 1, 50000, api.ErrBand},
		{19, 18, 50000, api.ErrBand}, // 0.95 is less than one step
		{19, 19, 50000, api.OK},
		{20, 19, 50000, api.OK}, // just 1
		{20, 21, 50000, api.OK},
		{20, 22, 50000, api.ErrBand},
		{999999, 999998, 1, api.ErrBand},
		{1000000, 999999, 1, api.OK},
		{1, 1, 1, api.OK},
		{1, 2, million, api.OK},
		{1, 3, million, api.ErrBand},
		{1, 2, million - 1, api.ErrBand},
		{500, 1, million, api.OK},
		{500, 1000, million, api.OK},
		{500, 1001, million, api.ErrBand},
		{topPrice, 1, million, api.OK},
		{topPrice, topPrice, 1, api.OK},
		{topPrice, 1099512, million - 1, api.OK}, // a millionth of 2^40 is 1099511.6
		{topPrice, 1099511, million - 1, api.ErrBand},
		{topPrice, topPrice / 2, million / 2, api.OK},
		{topPrice, topPrice/2 - 1, million / 2, api.ErrBand},
		{0, 1, 1, api.OK}, // nothing was traded yet
		{0, topPrice, 1, api.OK},
		{0, 77, 0, api.OK},
		{1000, 1, 0, api.OK}, // no band
		{1000, topPrice, 0, api.OK},
	} {
		if e := limits.Band(c.last, c.price, c.band); e != c.want {
			t.Errorf("Band(%d, %d, %d) = %d, want %d", c.last, c.price, c.band, int(e), int(c.want))
		}
	}
}

func TestP7_2BandOfWrongOnes(t *testing.T) {
	wrong := func(last, price, band int64) {
		t.Helper()
		if e := limits.Band(last, price, band); e != api.ErrArg {
			t.Errorf("Band(%d, %d, %d) = %d", last, price, band, int(e))
		}
	}
	for _, no := range wild() {
		for _, n := range append(wild(), 0, 1, 1000, million, topPrice) {
			wrong(no, n, 5)
			wrong(no, 5, n)
			wrong(n, no, 5)
			wrong(5, no, n)
			wrong(n, 5, no)
			wrong(5, n, no)
		}
	}
	for _, price := range []int64{0, -1, topPrice + 1} { // ErrArg is named ahead of what is open
		wrong(0, price, 1)
		wrong(1, price, 0)
		wrong(0, price, 0)
	}
	wrong(0, 1, -1)
	wrong(0, 1, million+1)
	wrong(-1, 1, 0)
	wrong(topPrice+1, 1, 0)
	wrong(1000, 1000, million+1)
	wrong(1000, 1000, math.MaxInt64)
}

func TestP7_2BandExactly(t *testing.T) {
	for _, last := range some(topPrice) {
		for _, band := range append(some(million), 0) {
			for _, price := range prices(last, band) {
				want := api.OK
				if !within(last, price, band) {
					want = api.ErrBand
				}
				if e := limits.Band(last, price, band); e != want {
					t.Fatalf("Band(%d, %d, %d) = %d, want %d", last, price, band, int(e), int(want))
				}
			}
		}
	}
}

// prices tells prices, those beside the edges among them.
func prices(last, band int64) []int64 {
	way := new(big.Int).Mul(big.NewInt(last), big.NewInt(band))
	far := way.Div(way, big.NewInt(million)).Int64()
	l := []int64{1, 2, last, topPrice - 1, topPrice}
	for d := int64(-2); d <= 2; d++ {
		l = append(l, last-far+d, last+far+d)
	}
	return slices.DeleteFunc(l, func(n int64) bool { return n < 1 || n > topPrice })
}

func TestP7_2EdgesByHand(t *testing.T) {
	for _, c := range []struct{ last, band, low, high int64 }{
		{1000, 50000, 950, 1050},
		{19, 50000, 19, 19},
		{20, 50000, 19, 21},
		{1, 1, 1, 1},
		{1, million, 1, 2},
		{1, million - 1, 1, 1},
		{500, million, 1, 1000}, // 0 is no price
		{500, million - 2000, 1, 999},
		{500, million - 2001, 2, 998},
		{topPrice, million, 1, topPrice},
		{topPrice, million - 1, 1099512, topPrice},
		{topPrice, 1, topPrice - 1099511, topPrice},
		{topPrice - 1, 1, topPrice - 1 - 1099511, topPrice},
		{topPrice / 2, million, 1, topPrice},
		{topPrice/2 + 1, million, 1, topPrice},
		{topPrice/2 - 1, million, 1, topPrice - 2},
		{0, 50000, 1, topPrice},
		{1000, 0, 1, topPrice},
		{0, 0, 1, topPrice},
		{topPrice, 0, 1, topPrice},
		{0, million, 1, topPrice},
		{-1, 50000, 0, 0},
		{topPrice + 1, 50000, 0, 0},
		{1000, -1, 0, 0},
		{1000, million + 1, 0, 0},
		{0, -1, 0, 0}, // Band says OK of no price
		{0, million + 1, 0, 0},
		{-1, 0, 0, 0},
		{topPrice + 1, 0, 0, 0},
		{math.MinInt64, math.MaxInt64, 0, 0},
	} {
		if low, high := limits.Edges(c.last, c.band); low != c.low || high != c.high {
			t.Errorf("Edges(%d, %d) = %d, %d, want %d, %d", c.last, c.band, low, high, c.low, c.high)
		}
	}
}

func TestP7_2EdgesOfWildOnes(t *testing.T) {
	for _, no := range wild() {
		for _, n := range append(wild(), 0, 1, 1000, million, topPrice) {
			low, high := limits.Edges(no, n)
			left, right := limits.Edges(n, no)
			if low != 0 || high != 0 || left != 0 || right != 0 {
				t.Error(no, n, low, high, left, right)
			}
		}
	}
}

// Among the first prices each is asked.
func TestP7_2EdgesByTheirWords(t *testing.T) {
	for last := int64(1); last < 130; last++ {
		for _, band := range append(some(million), 50000, 333333, 500000, 750001) {
			var least, greatest int64
			for price := int64(1); price <= 2*last+1; price++ {
				if within(last, price, band) {
					if least == 0 {
						least = price
					}
					greatest = price
				}
			}
			if low, high := limits.Edges(last, band); low != least || high != greatest {
				t.Fatalf("Edges(%d, %d) = %d, %d, want %d, %d", last, band, low, high, least, greatest)
			}
		}
	}
}

func TestP7_3WithinTheEdges(t *testing.T) {
	for _, last := range append(some(topPrice), 0) {
		for _, band := range append(some(million), 0) {
			low, high := limits.Edges(last, band)
			if low < 1 || high > topPrice || low > high {
				t.Fatal(last, band, low, high)
			}
			for _, price := range append(prices(last, band), low, high, max(low-1, 1), min(high+1, topPrice)) {
				e := limits.Band(last, price, band)
				if e != api.OK && e != api.ErrBand || (e == api.OK) != (price >= low && price <= high) {
					t.Fatal(last, band, price, low, high, int(e))
				}
			}
		}
	}
}

func TestP7_3WhatIsTrimmed(t *testing.T) {
	for _, lot := range some(topQty) {
		for _, qty := range append(some(topQty), 1<<62, math.MaxInt64) {
			n := limits.Trim(lot, qty)
			if n < 0 || n > qty || qty-n >= lot || n%lot != 0 {
				t.Fatal(lot, qty, n)
			}
			if limits.Trim(lot, n) != n {
				t.Fatal("trimmed again", lot, qty, n)
			}
			if qty <= topQty && (limits.Lot(lot, qty) == api.OK) != (n == qty) {
				t.Fatal("whole lots", lot, qty, n)
			}
			if n > 0 && n <= topQty && limits.Lot(lot, n) != api.OK {
				t.Fatal("no lots", lot, qty, n)
			}
		}
	}
}
