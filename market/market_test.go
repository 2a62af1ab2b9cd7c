package market_test

import (
	"math"
	"reflect"
	"slices"
	"testing"

	"jobber/api"
	"jobber/market"
	"jobber/purse"
	"jobber/rules"
	"jobber/sample"
)

func TestP22TheChaptersExample(t *testing.T) {
	m := made(t, plain())
	tells(t, m, deposit(0, api.Cash, 100), moved(0, api.Cash, 100))
	tells(t, m, deposit(1, api.Stock, 5), moved(1, api.Stock, 5))
	tells(t, m, place(api.Limit, sell(1, 1, 10, 5)), accept(sell(1, 1, 10, 5)))
	tells(t, m, place(api.Limit, buy(2, 0, 12, 3)), accept(buy(2, 0, 12, 3)), traded(buy(2, 0, 0, 0), 1, 10, 3, 0, 0))
	has(t, m, 0, purse.Purse{Cash: 70, Stock: 3, Volume: 30})
	has(t, m, 1, purse.Purse{Cash: 30, Stock: 2, HeldStock: 2, Volume: 30})
	rests(t, m, at(1, sell(1, 1, 10, 2)))
	if s := m.State(); s.Last != 10 || s.Next != 3 || s.Phase != api.Trading {
		t.Error(s)
	}
}

func TestP22_1New(t *testing.T) {
	for _, layout := range []int{api.Ladder, api.Grove} {
		r := by(func(r *api.Rules) { r.Layout, r.Version = layout, 32 })
		want := market.State{Rules: rules.Copy(r), Phase: api.Trading, Next: 1}
		m := made(t, r)
		if s := m.State(); !reflect.DeepEqual(s, want) || !market.Sound(s) {
			t.Error(layout, s)
		}
		r.Ticks[0].Size, r.Fees[0].Maker = 7, 7
		if s := m.State(); !reflect.DeepEqual(s, want) {
			t.Error("what was handed in is shared", s)
		}
	}
	for i, spoil := range sample.Spoils() {
		r := plain()
		spoil(&r)
		if m, e := market.New(r); m != nil || e != api.ErrRules {
			t.Error(i, m, int(e))
		}
	}
	if m, e := market.New(api.Rules{}); m != nil || e != api.ErrRules {
		t.Error("none", m, int(e))
	}
}

func TestP22_1Restore(t *testing.T) {
	for i, s := range sample.States() {
		m, e := market.Restore(s)
		if e != api.OK || !market.Sound(s) {
			t.Error(i, int(e))
			continue
		}
		if got := m.State(); !market.Same(got, s) || !slices.Equal(got.Orders, s.Orders) || got.Till != s.Till {
			t.Error(i, got, s)
		}
	}
}

// unsound holds that a state with something changed is not sound; the change is told whether it may be done to that state.
func unsound(t *testing.T, why any, change func(s *market.State) bool) {
	t.Helper()
	some := false
	for i, s := range sample.States() {
		if !change(&s) {
			continue
		}
		some = true
		if m, e := market.Restore(s); m != nil || e != api.ErrState || market.Sound(s) {
			t.Error(why, i, int(e))
		}
	}
	if !some {
		t.Error(why, "was done to no state")
	}
}

func TestP22_1SoundNumberByNumber(t *testing.T) {
	for i, spoil := range sample.Spoils() {
		unsound(t, i, func(s *market.State) bool { spoil(&s.Rules); return true })
	}
	for _, p := range []int{0, 3, -1, math.MinInt, math.MaxInt, 1<<32 + 1} {
		unsound(t, "phase", func(s *market.State) bool { s.Phase = p; return true })
	}
	for _, n := range []int64{-1, api.MaxPrice + 1, math.MinInt64, math.MaxInt64} {
		unsound(t, "last", func(s *market.State) bool { s.Last = n; return true })
	}
	for _, n := range []int64{0, 1, api.MaxPrice - 1, api.MaxPrice} {
		s := sample.States()[1]
		if s.Last = n; !market.Sound(s) {
			t.Error("last", n)
		}
	}
	for _, n := range []uint64{0, 1, 2, 1 << 62, math.MaxUint64} {
		s := sample.States()[0]
		if s.Next = n; !market.Sound(s) { // no order has a Seq
			t.Error("next", n)
		}
	}
	if market.Sound(market.State{}) {
		t.Error("nothing is sound")
	}
}

func TestP22_1SoundOfTills(t *testing.T) {
	for i := range api.MaxAccounts {
		for _, n := range []int64{1, -1} {
			unsound(t, "held cash", func(s *market.State) bool { s.Till.Purses[i].HeldCash += n; return true })
			unsound(t, "held stock", func(s *market.State) bool { s.Till.Purses[i].HeldStock += n; return true })
		}
		for _, n := range []int64{-1, api.MaxMoney + 1, math.MinInt64, math.MaxInt64} {
			unsound(t, "cash", func(s *market.State) bool { s.Till.Purses[i].Cash = n; return true })
			unsound(t, "stock", func(s *market.State) bool { s.Till.Purses[i].Stock = n; return true })
			unsound(t, "owed", func(s *market.State) bool { s.Till.Purses[i].Owed = n; return true })
			unsound(t, "volume", func(s *market.State) bool { s.Till.Purses[i].Volume = n; return true })
			unsound(t, "house", func(s *market.State) bool { s.Till.House = n; return true })
		}
	}
	unsound(t, "all the cash", func(s *market.State) bool { s.Till.House = api.MaxMoney; return s.Till.Purses[7].Cash > 0 })
	unsound(t, "what is there", func(s *market.State) bool {
		p := &s.Till.Purses[0]
		p.Cash = p.HeldCash - 1
		return p.HeldCash > 0
	})
}

func TestP22_1SoundOfOrders(t *testing.T) {
	for i, change := range []func(s *market.State, l []api.Order){
		func(s *market.State, l []api.Order) { l[0], l[1] = l[1], l[0] },
		func(s *market.State, l []api.Order) { s.Orders = l[1:] },
		func(s *market.State, l []api.Order) { s.Orders = append(l[:1], l...) },
		func(s *market.State, l []api.Order) { l[0].ID = l[1].ID },
		func(s *market.State, l []api.Order) { l[0].Account = (l[0].Account + 1) % api.MaxAccounts },
		func(s *market.State, l []api.Order) { l[0].Account = -1 },
		func(s *market.State, l []api.Order) { l[0].Account = api.MaxAccounts },
		func(s *market.State, l []api.Order) { l[0].Side = 3 },
		func(s *market.State, l []api.Order) { l[0].Price = 0 },
		func(s *market.State, l []api.Order) { l[0].Price++ },
		func(s *market.State, l []api.Order) { l[0].Price = api.MaxPrice + 1 },
		func(s *market.State, l []api.Order) { l[0].Qty = 0 },
		func(s *market.State, l []api.Order) { l[0].Qty++ },
		func(s *market.State, l []api.Order) { l[len(l)-1].Qty-- },
		func(s *market.State, l []api.Order) { l[len(l)-1].Qty = api.MaxQty + 1 },
		func(s *market.State, l []api.Order) { l[len(l)-1].Seq = s.Next },
		func(s *market.State, l []api.Order) { l[len(l)-1].Seq = math.MaxUint64 },
		func(s *market.State, l []api.Order) {
			s.Next = 0
			for _, o := range l {
				s.Next = max(s.Next, o.Seq)
			}
		},
	} {
		unsound(t, i, func(s *market.State) bool {
			s.Orders = slices.Clone(s.Orders)
			if len(s.Orders) > 1 {
				change(s, s.Orders)
			}
			return len(s.Orders) > 1
		})
	}
}

func TestP22_1SoundOfHoldsWithoutRoom(t *testing.T) {
	s := sample.States()[3]
	s.Orders = []api.Order{at(7, buy(1, 7, 1<<31, 1<<31+1)), s.Orders[1]} // more than MaxMoney
	for _, held := range []int64{s.Till.Purses[7].HeldCash, 0} {
		if s.Till.Purses[7].HeldCash = held; market.Sound(s) {
			t.Error("one that has no hold", held)
		}
	}
	s = made(t, plain()).State()
	s.Next = 100
	for i := range uint64(4) { // all together are 2^64
		s.Orders = append(s.Orders, at(i, buy(i, 0, 1<<31, 1<<31)))
	}
	if market.Sound(s) {
		t.Error("holds that went round")
	}
	s.Till.Purses[0] = purse.Purse{Cash: api.MaxMoney, HeldCash: api.MaxMoney}
	if market.Sound(s) {
		t.Error("holds that went no further")
	}
	s.Orders = s.Orders[:1]
	if !market.Sound(s) {
		t.Error("one that holds MaxMoney")
	}
}

func TestP22_1SoundOfFullBooks(t *testing.T) {
	s := made(t, plain()).State()
	for i := range uint64(65) {
		s.Orders = append(s.Orders, at(i, sell(i, 0, 5, 1)))
	}
	s.Next = 65
	s.Till.Purses[0] = purse.Purse{Stock: 65, HeldStock: 65}
	if market.Sound(s) {
		t.Error("65 orders")
	}
	s.Orders = s.Orders[:64]
	s.Till.Purses[0].HeldStock = 64
	if !market.Sound(s) {
		t.Error("64 orders")
	}
	if s.Next = 64; !market.Sound(s) {
		t.Error("the greatest Seq is below")
	}
	if s.Next = 63; market.Sound(s) {
		t.Error("the greatest Seq is not below")
	}
}

func TestP22_1NoMarket(t *testing.T) {
	var none *market.Market
	for _, m := range []*market.Market{none, {}} {
		if m.Clone() != nil || !reflect.DeepEqual(m.State(), market.State{}) {
			t.Error(m)
		}
		for kind := -1; kind < 17; kind++ {
			for _, account := range []int{0, 7, -1, 8, math.MinInt} {
				c := api.Command{Kind: kind, Account: account, ID: 9, Side: 1, Type: 1, Asset: 1, Price: 5, Qty: 5}
				if l := m.Apply(c); !slices.Equal(l, reject(c, api.ErrNil)) {
					t.Error(c, l)
				}
			}
		}
		if !reflect.DeepEqual(m.State(), market.State{}) {
			t.Error("turned")
		}
	}
}

func TestP22_1OwnMemory(t *testing.T) {
	for i, s := range sample.States() {
		was := s
		was.Rules, was.Orders = rules.Copy(s.Rules), slices.Clone(s.Orders)
		spoil := func(s market.State) {
			s.Rules.Ticks[0].Size, s.Rules.Fees[0].Taker = 99, 99
			clear(s.Orders)
		}
		handed := s
		handed.Rules, handed.Orders = rules.Copy(s.Rules), slices.Clone(s.Orders)
		m := restored(t, handed)
		spoil(handed)
		spoil(m.State())
		c := m.Clone()
		spoil(c.State())
		if !market.Same(m.State(), was) || !market.Same(c.State(), was) {
			t.Error(i, "memory is shared")
		}
		if len(s.Orders) == 0 {
			continue
		}
		room := append(slices.Clone(s.Orders), sell(999, 0, 1, 1))
		handed.Rules, handed.Orders = s.Rules, room[:len(s.Orders)]
		restored(t, handed).Apply(place(api.Limit, sell(998, 0, 9, 1)))
		if room[len(s.Orders)].ID != 999 || !slices.Equal(room[:len(s.Orders)], s.Orders) {
			t.Error(i, "what is handed in is turned")
		}
	}
}

func TestP22_1Clone(t *testing.T) {
	commands := []api.Command{
		deposit(1, api.Cash, 50), place(api.Limit, buy(90, 2, 12, 3)), place(api.Limit, sell(91, 2, 10, 3)),
		cancel(0, 0), replace(1, 1, 10, 2), halt(), place(api.Limit, sell(92, 3, 9, 2)), uncross(),
	}
	for i, s := range sample.States() {
		m := restored(t, s)
		c := m.Clone()
		if !market.Same(c.State(), s) {
			t.Error(i, c.State())
		}
		var first [][]api.Event
		for _, x := range commands {
			first = append(first, m.Apply(x))
		}
		if !market.Same(c.State(), s) || market.Same(m.State(), s) {
			t.Error(i, "not another one")
		}
		for j, x := range commands {
			if l := c.Apply(x); !slices.Equal(l, first[j]) {
				t.Error(i, j, l, first[j])
			}
		}
		if !market.Same(m.State(), c.State()) {
			t.Error(i, "they went apart")
		}
	}
}

func TestP22_1Same(t *testing.T) {
	changes := []func(s *market.State){
		func(s *market.State) { s.Rules.Version++ },
		func(s *market.State) { s.Rules.Ticks = []api.Tick{{From: 0, Size: 2}} },
		func(s *market.State) { s.Rules.Fees = nil },
		func(s *market.State) { s.Rules.Layout++ },
		func(s *market.State) { s.Phase++ },
		func(s *market.State) { s.Last++ },
		func(s *market.State) { s.Next++ },
		func(s *market.State) { s.Till.House++ },
		func(s *market.State) { s.Till.Purses[7].Volume-- },
		func(s *market.State) { s.Till.Purses[0].HeldStock++ },
		func(s *market.State) { s.Orders = append(slices.Clone(s.Orders), api.Order{}) },
	}
	for i, s := range sample.States() {
		if !market.Same(s, s) {
			t.Error(i)
		}
		for j, change := range changes {
			other := s
			change(&other)
			if market.Same(s, other) || market.Same(other, s) {
				t.Error(i, j)
			}
		}
		for j := range s.Orders {
			other := s
			other.Orders = slices.Clone(s.Orders)
			other.Orders[j].Seq++
			if market.Same(s, other) {
				t.Error(i, j)
			}
		}
		for j, other := range sample.States() {
			if market.Same(s, other) != (i == j) {
				t.Error(i, j)
			}
		}
	}
	none, empty := market.State{}, market.State{Orders: []api.Order{}, Rules: api.Rules{Ticks: []api.Tick{}, Fees: []api.Tier{}}}
	if !market.Same(none, empty) || !market.Same(empty, none) {
		t.Error("empty lists")
	}
}

func TestP22_1RefusedCommands(t *testing.T) {
	m := rich(t, plain(), 1000, 100)
	tells(t, m, place(api.Limit, buy(1, 0, 5, 5)), accept(buy(1, 0, 5, 5)))
	for _, kind := range []int{0, 9, 10, 11, 12, 13, 14, 15, 16, -1, -8, 1<<32 + 1, math.MinInt, math.MaxInt} {
		c := api.Command{Kind: kind, Account: 3, ID: 4, Side: 1, Type: 1, Asset: 1, Price: 5, Qty: 5}
		refuses(t, m, c, api.ErrArg)
		c.Account = -3
		refuses(t, m, c, api.ErrArg)
	}
	for _, kind := range []int{1, 2, 3, 4, 5, 8} {
		for _, account := range []int{-1, 8, 9, 1 << 32, math.MinInt, math.MaxInt} {
			refuses(t, m, api.Command{Kind: kind, Account: account, ID: 1, Side: 1, Type: 1, Asset: 1, Price: 5, Qty: 5}, api.ErrArg)
			refuses(t, m, api.Command{Kind: kind, Account: account, ID: 77}, api.ErrArg)
		}
	}
	for _, account := range []int{-1, 8, math.MinInt} { // these are of no account, and its ID counts for nothing
		tells(t, m, api.Command{Kind: api.CmdHalt, Account: account, ID: 6}, phase(api.Calling))
		refuses(t, m, api.Command{Kind: api.CmdHalt, Account: account, ID: 6}, api.ErrState)
		tells(t, m, api.Command{Kind: api.CmdUncross, Account: account, ID: 6}, phase(api.Trading))
		refuses(t, m, api.Command{Kind: api.CmdUncross, Account: account, ID: 6}, api.ErrState)
	}
}
