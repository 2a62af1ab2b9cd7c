package rules

import (
	"jobber/api"
	"jobber/fault"
	"jobber/grid"
)

// The layers that find errors of rule sets and orders: this one, and those below it.
const (
	ownLayer    = 9
	gridLayer   = 6
	limitsLayer = 7
	feesLayer   = 8
)

// own tells a fault of this layer, unless all is good.
func own(code api.Errno, good bool) error {
	if good {
		return nil
	}
	return fault.New(ownLayer, code)
}

// below tells what a layer below finds, wrapped by this one.
func below(layer int, code api.Errno) error {
	return fault.Wrap(ownLayer, fault.New(layer, code))
}

// onGrid tells a fault of the grid, unless a price is on it.
func onGrid(r api.Rules, price int64) error {
	if grid.On(r.Ticks, price) {
		return nil
	}
	return below(gridLayer, api.ErrTick)
}

// within tells whether a number is from low to high.
func within[N int | int64](n, low, high N) bool {
	return low <= n && n <= high
}

// numbers tells a rule set's numbers outside its lists.
func numbers(r api.Rules) []int64 {
	return []int64{int64(r.Version), r.Lot, r.Band, int64(r.Round), int64(r.Priority), int64(r.Self), int64(r.Layout)}
}
