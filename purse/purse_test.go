package purse_test

import (
	"math"
	"math/big"
	"math/rand"
	"testing"

	"jobber/api"
	"jobber/purse"
)

const most = api.MaxMoney

// call is one of the four calls that turn one asset of one account.
type call = func(t purse.Till, account, asset int, n int64) (purse.Till, api.Errno)

func calls() []call {
	return []call{purse.Deposit, purse.Withdraw, purse.Hold, purse.Release}
}

// names are those of calls, in their order.
func names() []string {
	return []string{"Deposit", "Withdraw", "Hold", "Release"}
}

// field is a number of a purse.
type field = func(p *purse.Purse) *int64

func fields() []field {
	return []field{
		func(p *purse.Purse) *int64 { return &p.Cash },
		func(p *purse.Purse) *int64 { return &p.Stock },
		func(p *purse.Purse) *int64 { return &p.HeldCash },
		func(p *purse.Purse) *int64 { return &p.HeldStock },
		func(p *purse.Purse) *int64 { return &p.Owed },
		func(p *purse.Purse) *int64 { return &p.Volume },
	}
}

// rich tells a till of which every account has something of everything.
func rich() purse.Till {
	var t purse.Till
	for i := range t.Purses {
		n := int64(i + 1)
		t.Purses[i] = purse.Purse{Cash: 100 * n, Stock: 50 * n, HeldCash: 30 * n, HeldStock: 20 * n, Owed: 5 * n, Volume: 1000 * n}
	}
	t.House = 7
	return t
}

// of tells a till of which the first accounts have these purses.
func of(house int64, l ...purse.Purse) purse.Till {
	t := purse.Till{House: house}
	copy(t.Purses[:], l)
	return t
}

// noAccounts are numbers of which there is no account, noAssets numbers that are no assets.
func noAccounts() []int { return []int{-1, 8, 9, 100, -8, 1 << 32, math.MaxInt, math.MinInt} }

func noAssets() []int { return []int{0, 3, -1, -2, 1<<32 + 1, math.MaxInt, math.MinInt} }

// noMoneys are numbers that are not from 0 to MaxMoney.
func noMoneys() []int64 {
	return []int64{-1, -2, -100, -most, math.MinInt64, most + 1, most + 2, math.MaxInt64 - 1, math.MaxInt64}
}

func assets() []int { return []int{api.Cash, api.Stock} }

// is holds what a call told against what it should.
func is(t *testing.T, got purse.Till, e api.Errno, want purse.Till, code api.Errno, why ...any) {
	t.Helper()
	if got != want || e != code {
		t.Errorf("%v: %+v, %d, want %+v, %d", why, got, int(e), want, int(code))
	}
}

func TestP11_1GoodNumberByNumber(t *testing.T) {
	for account := range api.MaxAccounts {
		for i, f := range fields() {
			for _, n := range append(noMoneys(), 0, 1, 1000, most-1, most) {
				var x purse.Till
				p := &x.Purses[account]
				if i == 2 || i == 3 { // what is held has to be there
					p.Cash, p.Stock = most, most
				}
				*f(p) = n
				if want := n >= 0 && n <= most; purse.Good(x) != want {
					t.Error(account, i, n, !want)
				}
			}
		}
	}
	for _, n := range append(noMoneys(), 0, 1, most-1, most) {
		if want := n >= 0 && n <= most; purse.Good(of(n)) != want {
			t.Error("the house", n, !want)
		}
	}
	if !purse.Good(purse.Till{}) || !purse.Good(rich()) {
		t.Error("a plain one, or a rich one")
	}
}

func TestP11_1GoodOfWhatIsHeld(t *testing.T) {
	for account := range api.MaxAccounts {
		x := rich()
		p := &x.Purses[account]
		p.HeldCash, p.HeldStock = p.Cash, p.Stock
		if !purse.Good(x) {
			t.Error("all of it is held", account)
		}
		p.HeldCash++
		if purse.Good(x) {
			t.Error("more cash is held than is there", account)
		}
		p.HeldCash--
		p.HeldStock++
		if purse.Good(x) {
			t.Error("more stock is held than is there", account)
		}
	}
	if purse.Good(of(0, purse.Purse{Cash: 5, HeldStock: 1})) || purse.Good(of(0, purse.Purse{Stock: 5, HeldCash: 1})) {
		t.Error("one asset is held of the other one")
	}
	if purse.Good(of(50, purse.Purse{HeldCash: 1})) || purse.Good(of(0, purse.Purse{HeldCash: 1}, purse.Purse{Cash: 9})) {
		t.Error("what others have is held")
	}
}

func TestP11_1GoodOfTotals(t *testing.T) {
	all := func(p purse.Purse, many int) purse.Till {
		var x purse.Till
		for i := range many {
			x.Purses[i] = p
		}
		return x
	}
	eighth := int64(most / 8)
	last := all(purse.Purse{Cash: eighth, Stock: eighth}, 8)
	for i, c := range []struct {
		x    purse.Till
		want bool
	}{
		{last, true},
		{of(0, purse.Purse{Cash: most}), true},
		{of(0, purse.Purse{Cash: most - 1}, purse.Purse{Cash: 1}), true},
		{of(0, purse.Purse{Cash: most}, purse.Purse{Cash: 1}), false},
		{of(1, purse.Purse{Cash: most}), false},
		{of(1, purse.Purse{Cash: most - 1}), true},
		{of(most, purse.Purse{}), true},
		{of(most, purse.Purse{}, purse.Purse{Cash: 1}), false},
		{of(most, purse.Purse{Stock: most}), true}, // the house has no stock
		{of(0, purse.Purse{Stock: most}, purse.Purse{Stock: 1}), false},
		{of(0, purse.Purse{Stock: most - 1}, purse.Purse{Stock: 1, Cash: most}), true},
		{of(0, purse.Purse{Cash: most, Stock: most, HeldCash: most, HeldStock: most, Owed: most, Volume: most}), true},
		{all(purse.Purse{Owed: most, Volume: most}, 8), true}, // of these there is no total
		{all(purse.Purse{Cash: most}, 2), false},
		{all(purse.Purse{Cash: most}, 4), false}, // 2^64 in all
		{all(purse.Purse{Stock: most}, 4), false},
		{all(purse.Purse{Cash: most}, 8), false},
		{all(purse.Purse{Stock: most}, 8), false},
		{of(most, purse.Purse{Cash: most}, purse.Purse{Cash: most}, purse.Purse{Cash: most}), false},
		{of(-5, purse.Purse{Cash: most}, purse.Purse{Cash: 5}), false},
	} {
		if purse.Good(c.x) != c.want {
			t.Error(i, c.x, !c.want)
		}
	}
	last.House = 1
	if purse.Good(last) {
		t.Error("the house has one too many")
	}
	last.House, last.Purses[7].Stock = 0, eighth+1
	if purse.Good(last) {
		t.Error("the last one has one too many")
	}
}

func TestP11_1Totals(t *testing.T) {
	for i, c := range []struct {
		x           purse.Till
		cash, stock int64
	}{
		{purse.Till{}, 0, 0},
		{rich(), 100*36 + 7, 50 * 36},
		{of(9), 9, 0},
		{of(most), most, 0},
		{of(2, purse.Purse{Cash: most - 3}, purse.Purse{Cash: 1, Stock: 4}), most, 4},
		{of(0, purse.Purse{Stock: most - 3}, purse.Purse{Stock: 3}), 0, most},
		{of(1, purse.Purse{Owed: 5, Volume: 6, Cash: 3, HeldCash: 2}), 4, 0},
	} {
		if cash, stock := purse.Totals(c.x); cash != c.cash || stock != c.stock {
			t.Error(i, cash, stock)
		}
	}
}

func TestP11_1Free(t *testing.T) {
	x := rich()
	for account := range api.MaxAccounts {
		n := int64(account + 1)
		if cash, stock := purse.Free(x, account, api.Cash), purse.Free(x, account, api.Stock); cash != 70*n || stock != 30*n {
			t.Error(account, cash, stock) // what is owed is free
		}
		for _, asset := range noAssets() {
			if n := purse.Free(x, account, asset); n != 0 {
				t.Error(account, asset, n)
			}
		}
	}
	for _, account := range noAccounts() {
		for _, asset := range append(noAssets(), assets()...) {
			if n := purse.Free(x, account, asset); n != 0 {
				t.Error(account, asset, n)
			}
		}
	}
	top := of(0, purse.Purse{Cash: most, Stock: most, HeldCash: 1, HeldStock: most, Owed: most})
	if purse.Free(top, 0, api.Cash) != most-1 || purse.Free(top, 0, api.Stock) != 0 {
		t.Error("at the limit")
	}
}

func TestP11_1ErrArgIsFirst(t *testing.T) {
	poor, full := purse.Till{}, of(0, purse.Purse{Cash: most, Stock: most, HeldCash: 2})
	for i, f := range calls() {
		for _, x := range []purse.Till{poor, full, rich()} {
			for _, n := range []int64{0, 1, 5, most, -1, most + 1} {
				for _, account := range noAccounts() {
					for _, asset := range append(noAssets(), assets()...) {
						got, e := f(x, account, asset, n)
						is(t, got, e, x, api.ErrArg, names()[i], account, asset, n)
					}
				}
				for _, asset := range noAssets() {
					got, e := f(x, 2, asset, n)
					is(t, got, e, x, api.ErrArg, names()[i], asset, n)
				}
			}
			for _, n := range noMoneys() {
				for _, asset := range assets() {
					got, e := f(x, 7, asset, n)
					is(t, got, e, x, api.ErrArg, names()[i], asset, n)
				}
			}
		}
	}
}

func TestP11_1Noughts(t *testing.T) {
	for i, f := range calls() {
		want := api.ErrArg
		if i >= 2 { // Hold and Release take a nought, where nothing is there, too
			want = api.OK
		}
		for _, x := range []purse.Till{{}, rich()} {
			for _, asset := range assets() {
				got, e := f(x, 3, asset, 0)
				is(t, got, e, x, want, names()[i], asset)
			}
		}
	}
}

func TestP11_2Deposit(t *testing.T) {
	for account := range api.MaxAccounts {
		want := rich()
		want.Purses[account].Cash += 9
		got, e := purse.Deposit(rich(), account, api.Cash, 9)
		is(t, got, e, want, api.OK, "cash", account)
		want = rich()
		want.Purses[account].Stock++
		got, e = purse.Deposit(rich(), account, api.Stock, 1)
		is(t, got, e, want, api.OK, "stock", account)
	}
	x := of(10, purse.Purse{Cash: 20, Stock: 5, HeldCash: 20, Owed: 50}, purse.Purse{Cash: 30, Stock: 6})
	for _, c := range []struct {
		asset int
		room  int64
	}{{api.Cash, most - 60}, {api.Stock, most - 11}} {
		for _, n := range []int64{c.room + 1, c.room + 2, most} {
			got, e := purse.Deposit(x, 5, c.asset, n)
			is(t, got, e, x, api.ErrBig, c.asset, n)
		}
		for _, n := range []int64{1, c.room - 1, c.room} {
			want := x
			if c.asset == api.Cash {
				want.Purses[5].Cash = n
			} else {
				want.Purses[5].Stock = n
			}
			got, e := purse.Deposit(x, 5, c.asset, n)
			is(t, got, e, want, api.OK, c.asset, n)
			if !purse.Good(got) {
				t.Error("no good till", got)
			}
		}
	}
	full := of(most)
	got, e := purse.Deposit(full, 0, api.Cash, 1)
	is(t, got, e, full, api.ErrBig, "the house has all")
	got, e = purse.Deposit(full, 0, api.Stock, most)
	is(t, got, e, of(most, purse.Purse{Stock: most}), api.OK, "but no stock")
}

func TestP11_2Withdraw(t *testing.T) {
	x := of(1000, purse.Purse{Cash: 1000, Stock: 1000}, purse.Purse{Cash: 100, Stock: 50, HeldCash: 30, HeldStock: 20, Owed: 15})
	for _, c := range []struct {
		asset int
		n     int64
		want  api.Errno
	}{
		{api.Cash, 1, api.OK}, {api.Cash, 54, api.OK}, {api.Cash, 55, api.OK},
		{api.Cash, 56, api.ErrFunds}, {api.Cash, 70, api.ErrFunds}, {api.Cash, 100, api.ErrFunds}, {api.Cash, most, api.ErrFunds},
		{api.Stock, 1, api.OK}, {api.Stock, 30, api.OK}, // what is owed is cash
		{api.Stock, 31, api.ErrFunds}, {api.Stock, 50, api.ErrFunds}, {api.Stock, most, api.ErrFunds},
	} {
		want := x
		if c.want == api.OK && c.asset == api.Cash {
			want.Purses[1].Cash -= c.n
		} else if c.want == api.OK {
			want.Purses[1].Stock -= c.n
		}
		got, e := purse.Withdraw(x, 1, c.asset, c.n)
		is(t, got, e, want, c.want, c.asset, c.n)
	}
	deep := of(0, purse.Purse{Cash: 10, HeldCash: 10, Owed: most}) // less than nothing is left
	got, e := purse.Withdraw(deep, 0, api.Cash, 1)
	is(t, got, e, deep, api.ErrFunds, "deep in debt")
	top := of(0, purse.Purse{Cash: most, Stock: most})
	got, e = purse.Withdraw(top, 0, api.Cash, most)
	is(t, got, e, of(0, purse.Purse{Stock: most}), api.OK, "all of it")
}

func TestP11_2Hold(t *testing.T) {
	x := of(1000, purse.Purse{Cash: 1000, Stock: 1000}, purse.Purse{Cash: 100, Stock: 50, HeldCash: 30, HeldStock: 20, Owed: 15})
	for _, c := range []struct {
		asset int
		n     int64
		want  api.Errno
	}{
		{api.Cash, 0, api.OK}, {api.Cash, 1, api.OK}, {api.Cash, 56, api.OK}, {api.Cash, 70, api.OK}, // what is owed counts for nothing here
		{api.Cash, 71, api.ErrFunds}, {api.Cash, 100, api.ErrFunds}, {api.Cash, most, api.ErrFunds},
		{api.Stock, 0, api.OK}, {api.Stock, 30, api.OK}, {api.Stock, 31, api.ErrFunds}, {api.Stock, most, api.ErrFunds},
	} {
		want := x
		if c.want == api.OK && c.asset == api.Cash {
			want.Purses[1].HeldCash += c.n
		} else if c.want == api.OK {
			want.Purses[1].HeldStock += c.n
		}
		got, e := purse.Hold(x, 1, c.asset, c.n)
		is(t, got, e, want, c.want, c.asset, c.n)
	}
}

func TestP11_2Release(t *testing.T) {
	x := of(1000, purse.Purse{Cash: 1000, Stock: 1000, HeldCash: 500, HeldStock: 500}, purse.Purse{Cash: 100, Stock: 50, HeldCash: 30, HeldStock: 20, Owed: 15})
	for _, c := range []struct {
		asset int
		n     int64
		want  api.Errno
	}{
		{api.Cash, 0, api.OK}, {api.Cash, 1, api.OK}, {api.Cash, 30, api.OK}, {api.Cash, 31, api.ErrFunds}, {api.Cash, most, api.ErrFunds},
		{api.Stock, 0, api.OK}, {api.Stock, 20, api.OK}, {api.Stock, 21, api.ErrFunds}, {api.Stock, most, api.ErrFunds},
	} {
		want := x
		if c.want == api.OK && c.asset == api.Cash {
			want.Purses[1].HeldCash -= c.n
		} else if c.want == api.OK {
			want.Purses[1].HeldStock -= c.n
		}
		got, e := purse.Release(x, 1, c.asset, c.n)
		is(t, got, e, want, c.want, c.asset, c.n)
	}
}

func TestP11_3TheChaptersExample(t *testing.T) {
	x, _ := purse.Deposit(purse.Till{}, 0, api.Cash, 100)
	x, _ = purse.Deposit(x, 1, api.Stock, 5)
	x, _ = purse.Hold(x, 0, api.Cash, 50)
	x, _ = purse.Hold(x, 1, api.Stock, 5)
	got, e := purse.Trade(x, purse.Deal{Buyer: 0, Seller: 1, Cash: 40, Stock: 5, HeldCash: 50, HeldStock: 5})
	is(t, got, e, of(0, purse.Purse{Cash: 60, Stock: 5, Volume: 40}, purse.Purse{Cash: 40, Volume: 40}), api.OK)
}

func TestP11_3Trade(t *testing.T) {
	x := of(9, purse.Purse{},
		purse.Purse{Cash: 100, Stock: 3, HeldCash: 60, HeldStock: 2, Owed: 4, Volume: 1000},
		purse.Purse{Cash: 7, Stock: 30, HeldCash: 5, HeldStock: 20, Owed: 6, Volume: 2000})
	for i, c := range []struct {
		d    purse.Deal
		want api.Errno
		b, s purse.Purse
	}{
		{purse.Deal{Buyer: 1, Seller: 2, Cash: 40, Stock: 8, HeldCash: 50, HeldStock: 9, BuyFee: 11, SellFee: 12}, api.OK,
			purse.Purse{Cash: 60, Stock: 11, HeldCash: 10, HeldStock: 2, Owed: 15, Volume: 1040},
			purse.Purse{Cash: 47, Stock: 22, HeldCash: 5, HeldStock: 11, Owed: 18, Volume: 2040}},
		{purse.Deal{Buyer: 1, Seller: 2, Cash: 100, Stock: 30, HeldCash: 60, HeldStock: 20}, api.OK, // all they have
			purse.Purse{Stock: 33, HeldStock: 2, Owed: 4, Volume: 1100},
			purse.Purse{Cash: 107, HeldCash: 5, Owed: 6, Volume: 2100}},
		{purse.Deal{Buyer: 1, Seller: 2, Cash: 40, Stock: 10}, api.OK, // nothing of it was held
			purse.Purse{Cash: 60, Stock: 13, HeldCash: 60, HeldStock: 2, Owed: 4, Volume: 1040},
			purse.Purse{Cash: 47, Stock: 20, HeldCash: 5, HeldStock: 20, Owed: 6, Volume: 2040}},
		{purse.Deal{Buyer: 1, Seller: 2, HeldCash: 60, HeldStock: 20}, api.OK, // nothing is paid
			purse.Purse{Cash: 100, Stock: 3, HeldStock: 2, Owed: 4, Volume: 1000},
			purse.Purse{Cash: 7, Stock: 30, HeldCash: 5, Owed: 6, Volume: 2000}},
		{purse.Deal{Buyer: 1, Seller: 2, HeldCash: 61}, api.ErrFunds, purse.Purse{}, purse.Purse{}},
		{purse.Deal{Buyer: 1, Seller: 2, HeldStock: 21}, api.ErrFunds, purse.Purse{}, purse.Purse{}},
		{purse.Deal{Buyer: 1, Seller: 2, Cash: 41}, api.ErrFunds, purse.Purse{}, purse.Purse{}},
		{purse.Deal{Buyer: 1, Seller: 2, Stock: 11}, api.ErrFunds, purse.Purse{}, purse.Purse{}},
		{purse.Deal{Buyer: 1, Seller: 2, Cash: 91, Stock: 8, HeldCash: 50, HeldStock: 9}, api.ErrFunds, purse.Purse{}, purse.Purse{}},
		{purse.Deal{Buyer: 1, Seller: 2, Cash: 40, Stock: 20, HeldCash: 50, HeldStock: 9}, api.ErrFunds, purse.Purse{}, purse.Purse{}},
		{purse.Deal{Buyer: 1, Seller: 2, Cash: most}, api.ErrFunds, purse.Purse{}, purse.Purse{}},
		{purse.Deal{Buyer: 0, Seller: 0, Cash: 1}, api.ErrFunds, purse.Purse{}, purse.Purse{}},
	} {
		want := x
		if c.want == api.OK {
			want.Purses[1], want.Purses[2] = c.b, c.s
		}
		got, e := purse.Trade(x, c.d)
		is(t, got, e, want, c.want, i, c.d)
	}
}

func TestP11_3TradeWithItself(t *testing.T) {
	p := purse.Purse{Cash: 100, Stock: 30, HeldCash: 60, HeldStock: 20, Owed: 4, Volume: 1000}
	d := purse.Deal{Buyer: 6, Seller: 6, Cash: 90, Stock: 29, HeldCash: 50, HeldStock: 19, BuyFee: 2, SellFee: 3}
	var x, want purse.Till
	x.Purses[6] = p
	want.Purses[6] = purse.Purse{Cash: 100, Stock: 30, HeldCash: 10, HeldStock: 1, Owed: 9, Volume: 1180}
	got, e := purse.Trade(x, d)
	is(t, got, e, want, api.OK)
	for _, more := range []purse.Deal{
		{Cash: 91, Stock: 29, HeldCash: 50, HeldStock: 19}, {Cash: 90, Stock: 30, HeldCash: 50, HeldStock: 19},
		{HeldCash: 61}, {HeldStock: 21},
	} {
		more.Buyer, more.Seller = 6, 6
		got, e := purse.Trade(x, more)
		is(t, got, e, x, api.ErrFunds, more)
	}
}

func TestP11_3TradeErrArgIsFirst(t *testing.T) {
	for _, x := range []purse.Till{{}, rich()} {
		for _, cash := range []int64{1, most} { // far more than is there
			for _, n := range noAccounts() {
				for _, d := range []purse.Deal{{Buyer: n}, {Seller: n}, {Buyer: n, Seller: n}} {
					d.Cash = cash
					got, e := purse.Trade(x, d)
					is(t, got, e, x, api.ErrArg, d)
				}
			}
			for _, n := range noMoneys() {
				for _, d := range []purse.Deal{
					{Cash: n}, {Stock: n}, {HeldCash: n}, {HeldStock: n}, {BuyFee: n}, {SellFee: n},
				} {
					d.Buyer, d.Seller = 7, 0
					if d.Cash == 0 {
						d.Cash = cash
					}
					got, e := purse.Trade(x, d)
					is(t, got, e, x, api.ErrArg, d)
				}
			}
		}
	}
}

func TestP11_3TradeAtTheLimits(t *testing.T) {
	x := of(0, purse.Purse{Cash: most, HeldCash: most, Owed: most - 3, Volume: most - 5}, purse.Purse{Stock: most, HeldStock: most, Owed: 1, Volume: most})
	d := purse.Deal{Buyer: 0, Seller: 1, Cash: most, Stock: most, HeldCash: most, HeldStock: most, BuyFee: most, SellFee: most - 1}
	got, e := purse.Trade(x, d)
	want := of(0, purse.Purse{Stock: most, Owed: most, Volume: most}, purse.Purse{Cash: most, Owed: most, Volume: most})
	is(t, got, e, want, api.OK)
	if !purse.Good(got) {
		t.Error("no good till")
	}
	small := purse.Deal{Buyer: 0, Seller: 1, Cash: 4, HeldCash: 4, BuyFee: 3}
	got, e = purse.Trade(x, small)
	want = x
	want.Purses[0] = purse.Purse{Cash: most - 4, HeldCash: most - 4, Owed: most, Volume: most - 1}
	want.Purses[1].Cash = 4
	is(t, got, e, want, api.OK)
	self := of(0, purse.Purse{Cash: 10, Owed: most - 4, Volume: most - 15})
	got, e = purse.Trade(self, purse.Deal{Cash: 10, BuyFee: 3, SellFee: 3})
	is(t, got, e, of(0, purse.Purse{Cash: 10, Owed: most, Volume: most}), api.OK, "with itself")
}

func TestP11_4Settle(t *testing.T) {
	for i, c := range []struct {
		p, after purse.Purse
		paid     int64
		want     api.Errno
	}{
		{purse.Purse{Cash: 100, Owed: 15}, purse.Purse{Cash: 85}, 15, api.OK},
		{purse.Purse{Cash: 100, HeldCash: 85, Owed: 15}, purse.Purse{Cash: 85, HeldCash: 85}, 15, api.OK},
		{purse.Purse{Cash: 100, HeldCash: 86, Owed: 15}, purse.Purse{Cash: 86, HeldCash: 86, Owed: 1}, 14, api.OK},
		{purse.Purse{Cash: 1, Owed: most}, purse.Purse{Owed: most - 1}, 1, api.OK},
		{purse.Purse{Cash: most - 50, Owed: most}, purse.Purse{Owed: 50}, most - 50, api.OK},
		{purse.Purse{Cash: 100, HeldCash: 100, Owed: 15}, purse.Purse{}, 0, api.ErrFunds},
		{purse.Purse{Stock: 100, Owed: 15}, purse.Purse{}, 0, api.ErrFunds},
		{purse.Purse{Cash: 100}, purse.Purse{}, 0, api.ErrNone},
		{purse.Purse{}, purse.Purse{}, 0, api.ErrNone}, // no cash is free either
	} {
		for account := range api.MaxAccounts {
			c.p.Volume, c.after.Volume = 77, 77
			x := purse.Till{House: 50}
			x.Purses[account] = c.p
			x.Purses[(account+1)%api.MaxAccounts] = purse.Purse{Stock: 3, Owed: 9, Volume: 8}
			want := x
			if c.want == api.OK {
				want.Purses[account] = c.after
				want.House += c.paid
			}
			got, n, e := purse.Settle(x, account)
			is(t, got, e, want, c.want, i, account)
			if n != c.paid {
				t.Error(i, account, n)
			}
		}
	}
	for _, account := range noAccounts() {
		for _, x := range []purse.Till{{}, rich()} {
			got, n, e := purse.Settle(x, account)
			is(t, got, e, x, api.ErrArg, account)
			if n != 0 {
				t.Error(account, n)
			}
		}
	}
}

// chance tells numbers worth a try.
type chance struct{ *rand.Rand }

// money tells a number from 0 on, which now and then is beside what may be.
func (c chance) money(top int64) int64 {
	l := []int64{0, 1, top - 1, top, top + 1, most, -1, most + 1, c.Int63n(top + 1), c.Int63n(top + 1), c.Int63n(10), c.Int63n(10)}
	return l[c.Intn(len(l))]
}

func (c chance) account() int { return c.Intn(10) - 1 }

// total tells all of an asset, exactly.
func total(t purse.Till, asset int) *big.Int {
	all := new(big.Int)
	for _, p := range t.Purses {
		n := p.Stock
		if asset == api.Cash {
			n = p.Cash
		}
		all.Add(all, big.NewInt(n))
	}
	if asset == api.Cash {
		all.Add(all, big.NewInt(t.House))
	}
	return all
}

// inWords does what the chapter's words say that the i-th of calls does.
func inWords(i int, t purse.Till, account, asset int, n int64) (purse.Till, api.Errno) {
	if account < 0 || account > 7 || asset != 1 && asset != 2 || n < 0 || n > most || i < 2 && n == 0 {
		return t, api.ErrArg
	}
	old, p := t, &t.Purses[account]
	has, held, owed := &p.Cash, &p.HeldCash, p.Owed
	if asset == 2 {
		has, held, owed = &p.Stock, &p.HeldStock, 0
	}
	sum := new(big.Int).Add(total(t, asset), big.NewInt(n))
	switch i {
	case 0:
		if sum.Cmp(big.NewInt(most)) > 0 {
			return old, api.ErrBig
		}
		*has += n
	case 1:
		if *has-*held-owed < n {
			return old, api.ErrFunds
		}
		*has -= n
	case 2:
		if *has-*held < n {
			return old, api.ErrFunds
		}
		*held += n
	case 3:
		if *held < n {
			return old, api.ErrFunds
		}
		*held -= n
	}
	return t, api.OK
}

// capped tells a sum that goes no further than MaxMoney.
func capped(a, b int64) int64 {
	return int64(min(uint64(a)+uint64(b), most))
}

// tradeInWords does what the chapter's words say of Trade.
func tradeInWords(t purse.Till, d purse.Deal) (purse.Till, api.Errno) {
	for _, n := range []int64{d.Cash, d.Stock, d.HeldCash, d.HeldStock, d.BuyFee, d.SellFee} {
		if n < 0 || n > most {
			return t, api.ErrArg
		}
	}
	if d.Buyer < 0 || d.Buyer > 7 || d.Seller < 0 || d.Seller > 7 {
		return t, api.ErrArg
	}
	old, b, s := t, &t.Purses[d.Buyer], &t.Purses[d.Seller]
	b.HeldCash -= d.HeldCash
	s.HeldStock -= d.HeldStock
	if b.HeldCash < 0 || s.HeldStock < 0 || b.Cash-b.HeldCash < d.Cash || s.Stock-s.HeldStock < d.Stock {
		return old, api.ErrFunds
	}
	b.Cash -= d.Cash
	s.Cash += d.Cash
	s.Stock -= d.Stock
	b.Stock += d.Stock
	b.Owed = capped(b.Owed, d.BuyFee)
	s.Owed = capped(s.Owed, d.SellFee)
	b.Volume = capped(b.Volume, d.Cash)
	s.Volume = capped(s.Volume, d.Cash)
	return t, api.OK
}

// settleInWords does what the chapter's words say of Settle.
func settleInWords(t purse.Till, account int) (purse.Till, int64, api.Errno) {
	if account < 0 || account > 7 {
		return t, 0, api.ErrArg
	}
	p := &t.Purses[account]
	n := min(p.Owed, p.Cash-p.HeldCash)
	switch {
	case p.Owed == 0:
		return t, 0, api.ErrNone
	case n == 0:
		return t, 0, api.ErrFunds
	}
	p.Owed, p.Cash, t.House = p.Owed-n, p.Cash-n, t.House+n
	return t, n, api.OK
}

// keeps tells whether what there is in all is as it was.
func keeps(t *testing.T, x, next purse.Till, why string) {
	t.Helper()
	for _, asset := range assets() {
		if total(x, asset).Cmp(total(next, asset)) != 0 {
			t.Fatal(why, "turned a total")
		}
	}
}

// A till is turned call by call as the chapter's words say; it stays good, and totals are turned by Deposit and Withdraw alone.
func TestP11_5CallByCall(t *testing.T) {
	done := map[string]int{}
	for seed := range int64(40) {
		c := chance{rand.New(rand.NewSource(seed))}
		var x purse.Till
		for range 1500 {
			next, name, e := step(t, c, x)
			if !purse.Good(next) {
				t.Fatal(name, "told no good till", next)
			}
			cash, stock := purse.Totals(next)
			if total(next, api.Cash).Int64() != cash || total(next, api.Stock).Int64() != stock {
				t.Fatal("totals", cash, stock)
			}
			if name != "Deposit" && name != "Withdraw" || e != api.OK {
				keeps(t, x, next, name)
			}
			if e != api.OK && next != x {
				t.Fatal(name, "turned a till, and told an error", int(e))
			}
			done[name+e.Error()]++
			x = next
		}
	}
	for _, name := range append(names(), "Trade", "Settle") {
		if done[name+api.OK.Error()] < 100 || done[name+api.ErrArg.Error()] < 100 {
			t.Error("hardly ever done, or refused:", name, done)
		}
	}
}

// step does one call that chance chooses, and holds it against the chapter's words.
func step(t *testing.T, c chance, x purse.Till) (purse.Till, string, api.Errno) {
	t.Helper()
	top := int64(60)
	if c.Intn(6) == 0 {
		top = most - 1
	}
	switch i := c.Intn(8); i {
	case 4, 5, 6:
		b, s := c.account(), c.account()
		d := purse.Deal{Buyer: b, Seller: s, BuyFee: c.money(20), SellFee: c.money(20)}
		if b >= 0 && b < 8 && s >= 0 && s < 8 {
			d.HeldCash = min(c.money(x.Purses[b].HeldCash), x.Purses[b].HeldCash+1)
			d.HeldStock = min(c.money(x.Purses[s].HeldStock), x.Purses[s].HeldStock+1)
			d.Cash = min(c.money(30), purse.Free(x, b, api.Cash)+d.HeldCash+1)
			d.Stock = min(c.money(30), purse.Free(x, s, api.Stock)+d.HeldStock+1)
		}
		got, e := purse.Trade(x, d)
		want, code := tradeInWords(x, d)
		is(t, got, e, want, code, "Trade", d)
		return got, "Trade", e
	case 7:
		account := c.account()
		got, n, e := purse.Settle(x, account)
		want, paid, code := settleInWords(x, account)
		is(t, got, e, want, code, "Settle", account)
		if n != paid {
			t.Error("Settle", n, paid)
		}
		return got, "Settle", e
	default:
		account, asset, n := c.account(), []int{0, 1, 1, 1, 2, 2, 2, 3}[c.Intn(8)], c.money(top)
		got, e := calls()[i](x, account, asset, n)
		want, code := inWords(i, x, account, asset, n)
		is(t, got, e, want, code, names()[i], account, asset, n)
		return got, names()[i], e
	}
}

// Of tills that are not good nothing is promised but that every call ends.
func TestP11_1OfTillsThatAreNotGood(t *testing.T) {
	for _, n := range append(noMoneys(), most) {
		var x purse.Till
		for i := range x.Purses {
			x.Purses[i] = purse.Purse{Cash: n, Stock: n, HeldCash: -n, HeldStock: n, Owed: n, Volume: n}
		}
		x.House = n
		if purse.Good(x) {
			t.Error("good", n)
		}
		purse.Totals(x)
		for i, f := range calls() {
			for _, asset := range assets() {
				purse.Free(x, i, asset)
				f(x, i, asset, 1)
				f(x, i, asset, most)
			}
		}
		purse.Trade(x, purse.Deal{Cash: most, Stock: 1, BuyFee: 1})
		purse.Settle(x, 0)
	}
}
