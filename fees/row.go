package fees

import "jobber/api"

// held tells a row with each of its numbers brought within its limits: a row that may be stays as it is.
func held(r api.Tier) api.Tier {
	within := func(n, most int64) int64 { return min(max(n, 0), most) }
	return api.Tier{
		From:  within(r.From, api.MaxMoney),
		Maker: within(r.Maker, api.MaxFee),
		Taker: within(r.Taker, api.MaxFee),
	}
}

// paid tells which part of a row a role pays, and whether there is such a role.
func paid(r api.Tier, role int) (int64, bool) {
	parts := r.Maker
	switch role {
	case api.TakerFee:
		parts = r.Taker
		fallthrough
	case api.MakerFee:
		return parts, true
	}
	return 0, false
}
