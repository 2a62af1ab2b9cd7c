package market

import (
	"jobber/api"
	"jobber/command"
	"jobber/purse"
)

// Apply does a command.
func (m *Market) Apply(c api.Command) []api.Event {
	l, e := m.do(c)
	if e != api.OK {
		return []api.Event{{Kind: api.EvReject, Account: c.Account, ID: c.ID, Code: e}}
	}
	return l
}

// do does a command, and tells its events, or why it is refused.
func (m *Market) do(c api.Command) ([]api.Event, api.Errno) {
	if !m.made() {
		return nil, api.ErrNil
	}
	if !command.Trades(c.Kind) {
		return nil, api.ErrArg
	}
	switch c.Kind { // these are nobody's
	case api.CmdHalt:
		return m.halt()
	case api.CmdUncross:
		return m.uncross()
	}
	if c.Account < 0 || c.Account >= api.MaxAccounts {
		return nil, api.ErrArg
	}
	switch c.Kind {
	case api.CmdDeposit:
		return m.move(purse.Deposit, c, c.Qty)
	case api.CmdWithdraw:
		return m.move(purse.Withdraw, c, -c.Qty)
	case api.CmdPlace:
		return m.place(c)
	case api.CmdCancel:
		return m.cancel(c)
	case api.CmdReplace:
		return m.replace(c)
	}
	return m.settle(c.Account)
}

// move puts in, or takes out, and tells how much more there is.
func (m *Market) move(do func(t purse.Till, account, asset int, n int64) (purse.Till, api.Errno), c api.Command, more int64) ([]api.Event, api.Errno) {
	till, e := do(m.is.Till, c.Account, c.Asset, c.Qty)
	if e != api.OK {
		return nil, e
	}
	m.is.Till = till
	return []api.Event{{Kind: api.EvMove, Account: c.Account, Side: c.Asset, Qty: more}}, api.OK
}

// settle pays what an account owes.
func (m *Market) settle(account int) ([]api.Event, api.Errno) {
	till, n, e := purse.Settle(m.is.Till, account)
	if e != api.OK {
		return nil, e
	}
	m.is.Till = till
	return []api.Event{{Kind: api.EvMove, Account: account, Side: api.Cash, Qty: -n, Fee: n}}, api.OK
}

// halt begins a call.
func (m *Market) halt() ([]api.Event, api.Errno) {
	if m.is.Phase == api.Calling {
		return nil, api.ErrState
	}
	return []api.Event{m.turn(api.Calling)}, api.OK
}

// turn turns to a phase.
func (m *Market) turn(phase int) api.Event {
	m.is.Phase = phase
	return api.Event{Kind: api.EvPhase, Side: phase}
}
