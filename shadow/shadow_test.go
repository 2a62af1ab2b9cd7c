package shadow_test

import (
	"math"
	"math/rand"
	"reflect"
	"slices"
	"testing"

	"jobber/api"
	"jobber/codec"
	"jobber/market"
	"jobber/purse"
	"jobber/sample"
	"jobber/shadow"
)

func TestP27TheChaptersExample(t *testing.T) {
	m := sample.Rich(sample.Rules(), 1000, 100)
	s := started(t, m, candidate(1, 10))
	c := sample.Place(api.Limit, buy(1, 0, 10, 5))
	told := m.Apply(c)
	if len(told) != 1 || told[0].Kind != api.EvAccept || !s.Feed(c, told) {
		t.Error(told)
	}
	counts(t, s, 1, 1)
	c = sample.Place(api.Limit, buy(2, 0, 10, 20)) // both accept it
	if s.Feed(c, m.Apply(c)) {
		t.Error("diverged")
	}
	counts(t, s, 2, 1)
}

func TestP27_1StartByHand(t *testing.T) {
	m := sample.Rich(sample.Rules(), 1000, 100)
	for _, o := range []api.Order{buy(1, 0, 10, 5), buy(2, 1, 12, 5), sell(3, 2, 20, 5), sell(4, 3, 20, 7)} {
		m.Apply(sample.Place(api.Limit, o))
	}
	was := m.State()
	r := candidate(5, 5)
	s := started(t, m, r)
	want := market.State{Rules: r, Phase: api.Trading, Next: 5, Till: was.Till}
	want.Orders = []api.Order{at(1, buy(1, 0, 10, 5)), at(3, sell(3, 2, 20, 5))} // the others do not fit
	want.Till.Purses[1] = purse.Purse{Cash: 1000, Stock: 100}
	want.Till.Purses[3] = want.Till.Purses[1]
	has(t, s, want)
	counts(t, s, 0, 0)
	if !reflect.DeepEqual(m.State(), was) {
		t.Error("the market that counts has turned")
	}
}

func TestP27_1StartByItsWords(t *testing.T) {
	src := rand.New(rand.NewSource(271))
	for range 300 {
		m, r := chosen(t, src), sample.SomeRules(src.Intn)
		was := m.State()
		s := started(t, m, r)
		has(t, s, turned(t, m, r).State())
		counts(t, s, 0, 0)
		if !reflect.DeepEqual(m.State(), was) {
			t.Fatal("the market that counts has turned")
		}
	}
	for _, is := range sample.States() {
		has(t, started(t, restored(t, is), is.Rules), is)
	}
}

func TestP27_1StartRefused(t *testing.T) {
	m := restored(t, sample.States()[1])
	was := m.State()
	bad := []api.Rules{{}}
	for _, spoil := range sample.Spoils() {
		bad = append(bad, by(spoil))
	}
	for i, r := range bad {
		if s, e := shadow.Start(m, r); s != nil || e != api.ErrRules {
			t.Error(i, s, int(e))
		}
	}
	if !reflect.DeepEqual(m.State(), was) {
		t.Error("the market turned")
	}
	for _, no := range []*market.Market{nil, {}, new(market.Market)} {
		for i, r := range append(bad, sample.Rules()) { // that there is none comes first
			if s, e := shadow.Start(no, r); s != nil || e != api.ErrNil {
				t.Error(i, s, int(e))
			}
		}
	}
}

func TestP27_1OfNoRunner(t *testing.T) {
	c := sample.Deposit(0, api.Cash, 5)
	for _, s := range []*shadow.Runner{nil, {}, new(shadow.Runner)} {
		for _, l := range [][]api.Event{nil, {{Kind: api.EvMove, Side: api.Cash, Qty: 5}}, {{Kind: api.EvReject, Code: api.ErrNil}}} {
			if s.Feed(c, l) {
				t.Error("fed", l)
			}
		}
		counts(t, s, 0, 0)
		has(t, s, market.State{})
		if s.State().Orders != nil || s.Clone() != nil {
			t.Error("something of nothing")
		}
		var w codec.Writer
		w.Nat(9)
		s.Put(&w)
		s.Put(nil)
		if !slices.Equal(w.Bytes(), []byte{9}) {
			t.Errorf("%x", w.Bytes())
		}
	}
}

// Whatever l is: just what its market does not tell of the command is another thing.
func TestP27_1FeedHoldsWhatItIsGiven(t *testing.T) {
	first := sample.Rich(sample.Rules(), 1000, 100)
	first.Apply(sample.Place(api.Limit, sell(1, 1, 10, 5)))
	first.Apply(sample.Place(api.Limit, sell(2, 2, 11, 5)))
	c := sample.Place(api.Limit, buy(3, 0, 11, 12))
	told := turned(t, first, candidate(1, 1)).Apply(c)
	if len(told) != 3 {
		t.Fatal(told)
	}
	extra := append(slices.Clone(told), api.Event{})
	others := [][]api.Event{nil, {}, told[:1], told[1:], extra, {told[0], told[2], told[1]}, append(slices.Clone(told), told...)}
	for _, change := range []func(e *api.Event){
		func(e *api.Event) { e.Kind++ }, func(e *api.Event) { e.Account++ }, func(e *api.Event) { e.ID++ },
		func(e *api.Event) { e.Other++ }, func(e *api.Event) { e.Side++ }, func(e *api.Event) { e.Price-- },
		func(e *api.Event) { e.Qty-- }, func(e *api.Event) { e.Fee++ }, func(e *api.Event) { e.Fee2++ },
		func(e *api.Event) { e.Code++ }, func(e *api.Event) { e.Version++ }, func(e *api.Event) { e.Index++ },
	} {
		for i := range told {
			l := slices.Clone(told)
			change(&l[i])
			others = append(others, l)
		}
	}
	for i, l := range others {
		s := started(t, first, candidate(1, 1))
		if was := slices.Clone(l); !s.Feed(c, l) || !slices.Equal(l, was) {
			t.Error(i, l)
		}
		counts(t, s, 1, 1)
	}
	for _, l := range [][]api.Event{told, slices.Clone(told), extra[:3]} { // what lies behind counts for nothing
		s := started(t, first, candidate(1, 1))
		if s.Feed(c, l) {
			t.Error(l)
		}
		counts(t, s, 1, 0)
		if extra[3] != (api.Event{}) {
			t.Error("written behind what was handed in")
		}
	}
}

// What is no command of trading is fed, too: its market refuses it.
func TestP27_1FeedOfAnyKind(t *testing.T) {
	m := restored(t, sample.States()[1])
	s := started(t, m, sample.States()[1].Rules)
	fed, diverged, was := uint64(0), uint64(0), s.State()
	for _, kind := range []int{0, -1, 16, math.MinInt, math.MaxInt, api.CmdPropose, api.CmdAck, api.CmdShade, api.CmdUnshade, api.CmdActivate, api.CmdRollback, api.CmdNoop} {
		c := api.Command{Kind: kind, Client: 3, Req: 4, Account: -5, ID: 6, Rules: candidate(2, 2)}
		fed++
		if s.Feed(c, []api.Event{{Kind: api.EvReject, Account: -5, ID: 6, Code: api.ErrArg}}) {
			t.Error(kind, "diverged")
		}
		counts(t, s, fed, diverged)
		fed, diverged = fed+1, diverged+1
		if !s.Feed(c, []api.Event{{Kind: api.EvNoop}}) {
			t.Error(kind, "told the same")
		}
		counts(t, s, fed, diverged)
	}
	has(t, s, was)
}

func TestP27_1StateIsItsOwn(t *testing.T) {
	s := started(t, restored(t, sample.States()[1]), sample.States()[1].Rules)
	want := s.State()
	is := s.State()
	is.Orders[0].Qty, is.Rules.Ticks[0].Size, is.Rules.Fees[0].Maker = 77, 77, 77
	_ = append(is.Orders[:1], api.Order{ID: 77})
	if !reflect.DeepEqual(s.State(), want) {
		t.Error("what was handed out turns it")
	}
}

func TestP27_1EachGoesItsOwnWay(t *testing.T) {
	src := rand.New(rand.NewSource(272))
	for range 60 {
		m := chosen(t, src)
		r := sample.SomeRules(src.Intn)
		kept := r
		kept.Ticks, kept.Fees = slices.Clone(r.Ticks), slices.Clone(r.Fees)
		one := begun(t, m, r)
		for range 20 {
			one.does(t, sample.SomeCommand(src.Intn, 1))
		}
		r.Ticks[0].Size, r.Fees[0].Maker = 77, 77 // they are not kept
		if one.runner.Version() != kept.Version || !slices.Equal(one.runner.State().Rules.Ticks, kept.Ticks) || !slices.Equal(one.runner.State().Rules.Fees, kept.Fees) {
			t.Fatal("its rules followed those handed in")
		}
		was, fed, diverged := one.runner.State(), one.fed, one.diverged
		two := pair{one.counts.Clone(), one.runner.Clone(), one.beside.Clone(), fed, diverged}
		has(t, two.runner, was)
		counts(t, two.runner, fed, diverged)
		for range 30 {
			one.does(t, sample.SomeCommand(src.Intn, 1))
		}
		has(t, two.runner, was)
		counts(t, two.runner, fed, diverged)
		was, fed, diverged = one.runner.State(), one.fed, one.diverged
		for range 30 {
			two.does(t, sample.SomeCommand(src.Intn, 1))
		}
		has(t, one.runner, was)
		counts(t, one.runner, fed, diverged)
		one.counts.Apply(sample.Deposit(0, api.Stock, 3)) // not fed
		has(t, one.runner, was)
	}
}

func TestP27_3TellsWhetherBothDiffer(t *testing.T) {
	src := rand.New(rand.NewSource(273))
	same, other := 0, 0
	for range 250 {
		p := begun(t, chosen(t, src), sample.SomeRules(src.Intn))
		for range 60 {
			if p.does(t, sample.SomeCommand(src.Intn, p.counts.State().Rules.Lot)) {
				other++
				continue
			}
			same++
		}
	}
	if same < 2000 || other < 2000 {
		t.Error("hardly ever", same, other)
	}
}

// A market from which nothing goes that is turned to the same rules, or to those of the other layout, tells the same for ever.
func TestP27_3TheSameNeverDiverges(t *testing.T) {
	src := rand.New(rand.NewSource(274))
	for i := range 300 {
		r := sample.SomeRules(src.Intn)
		m := turned(t, restored(t, sample.SomeState(src.Intn, r)), r) // what does not fit has gone
		if i%2 == 0 {
			r.Layout = api.Ladder + api.Grove - r.Layout
		}
		if i%3 == 0 {
			r.Version++ // of which no event tells
		}
		p := begun(t, m, r)
		for range 60 {
			if c := sample.SomeCommand(src.Intn, r.Lot); p.does(t, c) {
				t.Fatalf("diverged at %+v", c)
			}
		}
		counts(t, p.runner, 60, 0)
		if is, was := p.runner.State(), p.counts.State(); is.Till != was.Till || !slices.Equal(is.Orders, was.Orders) {
			t.Fatal("they went apart")
		}
	}
}

// What diverges at one command may tell the same again at the next one, and is held against it anew.
func TestP27_3ByHand(t *testing.T) {
	m := sample.Rich(sample.Rules(), 1000, 100)
	m.Apply(sample.Place(api.Limit, buy(1, 0, 12, 5))) // off the grid of the candidate: it is gone there
	p := begun(t, m, candidate(5, 1))
	for i, x := range []struct {
		c     api.Command
		other bool
	}{
		{sample.Deposit(0, api.Cash, 5), false},
		{sample.Place(api.Limit, sell(2, 1, 15, 5)), false},
		{sample.Place(api.Limit, sell(3, 1, 16, 5)), true},
		{sample.Cancel(1, 3), true},
		{sample.Cancel(1, 3), false}, // gone in both
		{sample.Place(api.Now, sell(4, 1, 10, 5)), true},
		{sample.Place(api.Now, sell(5, 1, 10, 5)), false},
		{sample.Halt(), false},
		{sample.Halt(), false}, // both refuse it
		{sample.Uncross(), false},
		{sample.Cancel(0, 1), false},
		{sample.Withdraw(0, api.Cash, 1000), true}, // the one has paid for what it bought
		{sample.Settle(0), false},
	} {
		if p.does(t, x.c) != x.other {
			t.Error(i, x.c)
		}
	}
	counts(t, p.runner, 13, 4)
}
