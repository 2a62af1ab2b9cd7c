package sample

import (
	"jobber/api"
	"jobber/market"
	"jobber/order"
	"jobber/purse"
)

// Pick chooses a number from 0 on that is below n, which is 1 or more.
type Pick func(n int) int

// upTo chooses a number from low to high.
func (pick Pick) upTo(low, high int) int64 {
	return int64(low + pick(high-low+1))
}

// SomeRules tells rules that are chosen, small in all but their kinds.
func SomeRules(pick Pick) api.Rules {
	r := api.Rules{
		Version: 1 + pick(3), Lot: pick.upTo(1, 3), Round: 1 + pick(3), Priority: 1 + pick(2),
		Self: 1 + pick(4), Layout: 1 + pick(2), Ticks: []api.Tick{{From: 0, Size: 1}},
		Fees: []api.Tier{{Maker: pick.upTo(0, 50000), Taker: pick.upTo(0, api.MaxFee)}},
	}
	if pick(2) == 0 {
		r.Ticks = append(r.Ticks, api.Tick{From: 12, Size: 2})
	}
	if pick(2) == 0 {
		r.Band = 300000
	}
	if pick(2) == 0 {
		r.Fees = append(r.Fees, api.Tier{From: 400, Maker: pick.upTo(0, api.MaxFee), Taker: pick.upTo(0, 50000)})
	}
	return r
}

// SomeCommand tells a command of trading that is chosen, most often one that may be done.
func SomeCommand(pick Pick, lot int64) api.Command {
	c := api.Command{
		Account: pick(4), ID: uint64(pick(25)), Side: 1 + pick(2), Type: 1 + pick(5),
		Price: pick.upTo(6, 17), Qty: lot * pick.upTo(1, 7),
	}
	if pick(3) == 0 {
		c.Type = api.Limit
	}
	switch n := pick(100); {
	case n < 60:
		c.Kind = api.CmdPlace
	case n < 78:
		c.Kind = api.CmdReplace
	case n < 84:
		c.Kind = api.CmdCancel
	case n < 88:
		c.Kind, c.Asset, c.Qty = api.CmdDeposit+pick(2), 1+pick(2), pick.upTo(1, 100)
	case n < 91:
		c.Kind = api.CmdSettle
	case n < 93:
		c.Kind = api.CmdHalt
	case n < 97:
		c.Kind = api.CmdUncross
	default: // something wrong
		c.Kind, c.Account, c.Side, c.Type = pick(10), pick(11)-1, pick(4), pick(7)
		c.Asset, c.Price, c.Qty = pick(4), pick.upTo(-3, 5), pick.upTo(-3, 5)
	}
	if pick(20) == 0 {
		c.Qty++
	}
	return c
}

// SomeState tells a sound state of a market that is chosen: its orders may cross, may be off the grid, and may have no whole lots.
func SomeState(pick Pick, r api.Rules) market.State {
	s := market.State{Rules: r, Phase: 1 + pick(2), Last: pick.upTo(0, 17), Next: 50}
	for i := range 4 {
		s.Till.Purses[i] = purse.Purse{
			Cash: pick.upTo(0, 800), Stock: pick.upTo(0, 80), Owed: pick.upTo(0, 30), Volume: pick.upTo(0, 600),
		}
	}
	s.Till.House = pick.upTo(0, 50)
	for i := range pick(20) {
		o := api.Order{
			ID: uint64(i), Account: pick(4), Side: 1 + pick(2), Price: pick.upTo(6, 17),
			Qty: pick.upTo(1, 12), Seq: uint64(pick(50)),
		}
		if t, ok := held(s.Till, o); ok {
			s.Till, s.Orders = t, append(s.Orders, o)
		}
	}
	s.Orders = order.Sorted(s.Orders)
	return s
}

// held tells a till in which an order is held for, and whether it can be.
func held(t purse.Till, o api.Order) (purse.Till, bool) {
	asset, n, _ := order.Hold(o) // it is small
	t, e := purse.Hold(t, o.Account, asset, n)
	return t, e == api.OK
}
