package order

import "jobber/api"

// Whose orders stand ahead of whose.
const (
	buyers = iota
	sellers
	others // of no side
)

// rank tells where a side's orders stand.
func rank(side int) int {
	switch side {
	case api.Buy:
		return buyers
	case api.Sell:
		return sellers
	}
	return others
}

// asBuyer tells two prices of a side, turned so that the greater one is the better one, and whether there is such a side.
func asBuyer(side int, a, b int64) (first, second int64, ok bool) {
	switch side {
	case api.Sell:
		a, b = b, a // what is less for a seller is as good as what is more for a buyer
		fallthrough
	case api.Buy:
		return a, b, true
	}
	return 0, 0, false
}
