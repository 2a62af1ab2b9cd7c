package command

import "jobber/api"

// shape is which fields a kind has, besides Kind, Client and Req.
type shape struct {
	account, asset, id, side, kind, price, qty bool
	replica, version, at                       bool
	rules                                      bool
}

// shapeOf tells a kind's shape, and whether there is such a kind.
func shapeOf(kind int) (s shape, ok bool) {
	switch kind {
	case api.CmdPlace:
		s.side, s.kind = true, true
		fallthrough
	case api.CmdReplace:
		s.price, s.qty = true, true
		fallthrough
	case api.CmdCancel:
		s.id = true
		fallthrough
	case api.CmdSettle:
		s.account = true
	case api.CmdDeposit, api.CmdWithdraw:
		s.account, s.asset, s.qty = true, true, true
	case api.CmdPropose:
		s.rules = true
	case api.CmdAck:
		s.replica = true
		fallthrough
	case api.CmdShade:
		s.version = true
	case api.CmdActivate:
		s.version, s.at = true, true
	case api.CmdHalt, api.CmdUncross, api.CmdUnshade, api.CmdRollback, api.CmdNoop:
	default:
		return shape{}, false
	}
	return s, true
}

// each has a pen go over those fields of a command that the shape has, in the order in which all kinds' bytes have them.
func (s shape) each(c *api.Command, p pen) {
	small := func(has bool, n *int) {
		if has {
			p.small(n)
		}
	}
	whole := func(has bool, n *int64) {
		if has {
			p.whole(n)
		}
	}
	nat := func(has bool, n *uint64) {
		if has {
			p.nat(n)
		}
	}
	small(s.account, &c.Account)
	small(s.asset, &c.Asset)
	nat(s.id, &c.ID)
	small(s.side, &c.Side)
	small(s.kind, &c.Type)
	whole(s.price, &c.Price)
	whole(s.qty, &c.Qty)
	small(s.replica, &c.Replica)
	small(s.version, &c.Version)
	nat(s.at, &c.At)
	if s.rules {
		p.rules(&c.Rules)
	}
}
