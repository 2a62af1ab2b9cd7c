package own

import "jobber/api"

// deeds are what a policy does where an own one waits.
type deeds struct {
	drops bool // the own one goes
	stops bool // what comes goes no further
}

// deedsOf tells a policy's deeds, and whether there is such a policy.
func deedsOf(policy int) (d deeds, ok bool) {
	switch policy {
	case api.DropNew:
		return deeds{stops: true}, true
	case api.DropBoth:
		d.stops = true
		fallthrough
	case api.DropOld:
		d.drops = true
		fallthrough
	case api.Allow:
		return d, true
	}
	return deeds{}, false
}

// ownOf tells which orders are own to an account that comes.
func ownOf(policy, account int) func(o api.Order) bool {
	return func(o api.Order) bool { return policy != api.Allow && o.Account == account }
}
