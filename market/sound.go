package market

import (
	"jobber/api"
	"jobber/coin"
	"jobber/order"
	"jobber/purse"
	"jobber/rules"
)

// Sound tells whether a state may be.
func Sound(s State) bool {
	return rules.Check(s.Rules) == nil &&
		(s.Phase == api.Trading || s.Phase == api.Calling) &&
		s.Last >= 0 && s.Last <= api.MaxPrice &&
		purse.Good(s.Till) &&
		order.Book(s.Orders) &&
		below(s.Orders, s.Next) &&
		covers(s.Till, s.Orders)
}

// below tells whether each order's Seq is below the next one.
func below(l []api.Order, next uint64) bool {
	for _, o := range l {
		if o.Seq >= next {
			return false
		}
	}
	return true
}

// covers tells whether just what orders hold is held in a till.
func covers(t purse.Till, l []api.Order) bool {
	var held, holds [api.MaxAccounts][api.Stock + 1]int64 // by accounts and assets
	for i, p := range t.Purses {
		held[i][api.Cash], held[i][api.Stock] = p.HeldCash, p.HeldStock
	}
	for _, o := range l {
		asset, n, e := order.Hold(o)
		if e != api.OK {
			return false
		}
		sum, e := coin.Add(holds[o.Account][asset], n)
		if e != api.OK {
			return false
		}
		holds[o.Account][asset] = sum
	}
	return held == holds
}
