package purse

import (
	"jobber/api"
	"jobber/coin"
)

// money tells whether all numbers are from 0 to MaxMoney.
func money(l ...int64) bool {
	for _, n := range l {
		if n < 0 || n > api.MaxMoney {
			return false
		}
	}
	return true
}

// there tells whether there is such an account.
func there(account int) bool {
	return account >= 0 && account < api.MaxAccounts
}

// known tells whether there is such an account, and such an asset.
func known(account, asset int) bool {
	return there(account) && (asset == api.Cash || asset == api.Stock)
}

// may tells whether a deal may be asked for.
func (d Deal) may() bool {
	return there(d.Buyer) && there(d.Seller) && money(d.Cash, d.Stock, d.HeldCash, d.HeldStock, d.BuyFee, d.SellFee)
}

// of tells what a purse has of an asset, and how much of that is held.
func (p Purse) of(asset int) (has, held int64) {
	if asset == api.Cash {
		return p.Cash, p.HeldCash
	}
	return p.Stock, p.HeldStock
}

// more tells a till in which an account has n more of an asset.
func (t Till) more(account, asset int, n int64) Till {
	p := &t.Purses[account]
	if asset == api.Cash {
		p.Cash += n
	} else {
		p.Stock += n
	}
	return t
}

// moreHeld tells a till in which n more of an account's asset is held.
func (t Till) moreHeld(account, asset int, n int64) Till {
	p := &t.Purses[account]
	if asset == api.Cash {
		p.HeldCash += n
	} else {
		p.HeldStock += n
	}
	return t
}

// charged tells a till in which an account owes a fee more, and has traded for so much more cash.
func (t Till) charged(account int, fee, cash int64) Till {
	p := &t.Purses[account]
	p.Owed = coin.Capped(p.Owed, fee)
	p.Volume = coin.Capped(p.Volume, cash)
	return t
}
