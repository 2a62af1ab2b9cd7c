package ladder

import (
	"iter"
	"sort"

	"jobber/api"
	"jobber/order"
)

// row is a price at which there are orders.
type row struct {
	price int64
	queue []api.Order // as they are ahead of one another; never empty
}

// side tells a side's rows.
func (b *Book) side(side int) []row {
	if !b.made() {
		return nil
	}
	return b.sides[side]
}

// over goes over the rows of sides, each side's best one first.
func (b *Book) over(sides ...int) iter.Seq[row] {
	return func(yield func(row) bool) {
		for _, side := range sides {
			for _, r := range b.side(side) {
				if !yield(r) {
					return
				}
			}
		}
	}
}

// find tells where a side's row of a price is, or would be, and whether there is one.
func find(rows []row, side int, price int64) (int, bool) {
	at := sort.Search(len(rows), func(i int) bool { return !order.Better(side, rows[i].price, price) })
	return at, at < len(rows) && rows[at].price == price
}

// place tells where an order of that row is, or would be.
func place(queue []api.Order, o api.Order) int {
	return sort.Search(len(queue), func(i int) bool { return !order.Ahead(queue[i], o) })
}
