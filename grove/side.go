package grove

import (
	"slices"
	"sort"

	"jobber/api"
	"jobber/order"
)

// prices are a side's prices, each with its orders' IDs, as these are ahead of one another; none is without any.
type prices = tree[int64, []uint64]

// planted tells a side's tree without a price.
func planted(side int) *prices {
	return &prices{ahead: func(a, b int64) bool { return order.Better(side, a, b) }}
}

// made tells whether a call made b.
func (b *Book) made() bool {
	return b != nil && b.orders != nil
}

// side tells a side's prices.
func (b *Book) side(side int) *prices {
	if b.made() && b.sides[side] != nil {
		return b.sides[side]
	}
	return planted(side)
}

// put puts an order into the map, and into its price's queue.
func (b *Book) put(o api.Order) {
	b.orders[o.ID] = o
	t := b.side(o.Side)
	queue := t.get(o.Price)
	at := sort.Search(len(queue), func(i int) bool { return order.Ahead(o, b.orders[queue[i]]) })
	t.put(o.Price, slices.Insert(queue, at, o.ID))
}

// told tells l, and behind it the orders of a queue.
func (b *Book) told(l []api.Order, queue []uint64) []api.Order {
	for _, id := range queue {
		l = append(l, b.orders[id])
	}
	return l
}
