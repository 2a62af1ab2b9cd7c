package grid

import (
	"slices"

	"jobber/api"
)

// none tells a row that is none: it has no steps.
func none() api.Tick {
	return api.Tick{}
}

// rowOf tells a price's row.
func rowOf(t []api.Tick, price int64) api.Tick {
	if Check(t) != api.OK || price < 1 || price > api.MaxPrice {
		return none()
	}
	above := func(r api.Tick) bool { return r.From > price }
	behind := slices.IndexFunc(t, above)
	if behind < 0 {
		behind = len(t)
	}
	return t[behind-1]
}

// end tells the first number behind a row, whose place it is given: it begins the next row, or is no price.
func end(t []api.Tick, place int) int64 {
	if place+1 < len(t) {
		return t[place+1].From
	}
	return api.MaxPrice + 1
}

// upTo tells how many prices on the grid are not above a number that is not below 0.
func upTo(t []api.Tick, top int64) int64 {
	n := int64(-1) // the first row's 0 is counted, and is no price
	for i, r := range t {
		if last := min(top, end(t, i)-1); last >= r.From {
			n += (last-r.From)/r.Size + 1
		}
	}
	return n
}
