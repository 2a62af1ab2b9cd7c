package sample

import "jobber/api"

// Deposit tells a command that puts in.
func Deposit(account, asset int, n int64) api.Command {
	return api.Command{Kind: api.CmdDeposit, Account: account, Asset: asset, Qty: n}
}

// Withdraw tells one that takes out.
func Withdraw(account, asset int, n int64) api.Command {
	return api.Command{Kind: api.CmdWithdraw, Account: account, Asset: asset, Qty: n}
}

// Place tells one that places an order, of which Seq counts for nothing.
func Place(kind int, o api.Order) api.Command {
	return api.Command{
		Kind: api.CmdPlace, Account: o.Account, ID: o.ID, Side: o.Side,
		Type: kind, Price: o.Price, Qty: o.Qty,
	}
}

// Cancel tells one that cancels an order.
func Cancel(account int, id uint64) api.Command {
	return api.Command{Kind: api.CmdCancel, Account: account, ID: id}
}

// Replace tells one that gives an order another price and quantity.
func Replace(account int, id uint64, price, qty int64) api.Command {
	return api.Command{Kind: api.CmdReplace, Account: account, ID: id, Price: price, Qty: qty}
}

// Settle tells one that pays what is owed.
func Settle(account int) api.Command {
	return api.Command{Kind: api.CmdSettle, Account: account}
}

// Halt tells one that begins a call.
func Halt() api.Command { return api.Command{Kind: api.CmdHalt} }

// Uncross tells one that ends a call.
func Uncross() api.Command { return api.Command{Kind: api.CmdUncross} }

// Propose tells one that proposes a rule set.
func Propose(r api.Rules) api.Command {
	return api.Command{Kind: api.CmdPropose, Rules: r}
}

// Ack tells one by which a replica says that it supports a version.
func Ack(replica, version int) api.Command {
	return api.Command{Kind: api.CmdAck, Replica: replica, Version: version}
}

// Shade tells one that has a version tried beside.
func Shade(version int) api.Command {
	return api.Command{Kind: api.CmdShade, Version: version}
}

// Unshade tells one that has none tried beside any more.
func Unshade() api.Command { return api.Command{Kind: api.CmdUnshade} }

// Activate tells one by which a version is to count from an entry on.
func Activate(version int, at uint64) api.Command {
	return api.Command{Kind: api.CmdActivate, Version: version, At: at}
}

// Rollback tells one that takes the last version back.
func Rollback() api.Command { return api.Command{Kind: api.CmdRollback} }
