package layout

import (
	"jobber/api"
	"jobber/ladder"
)

// laid is what the books of both layouts have, but for Clone: each clones to its own type.
type laid interface {
	Add(o api.Order) api.Errno
	Get(id uint64) (api.Order, bool)
	Take(id uint64) (api.Order, bool)
	Cut(id uint64, qty int64) api.Errno
	Best(side int) (api.Order, bool)
	Level(side int, price int64) []api.Order
	Prices(side int) []int64
	All() []api.Order
	Len() int
}

// made tells whether a call made b.
func (b *Book) made() bool {
	return b != nil && *b != Book{}
}

// held tells the book that b stands for: of a b that no call made, one that no call made either.
func (b *Book) held() laid {
	if !b.made() {
		return &ladder.Book{}
	}
	return b.in
}

// fill adds orders that are a Book, of which none is refused.
func fill(add func(o api.Order) api.Errno, l []api.Order) {
	for _, o := range l {
		add(o)
	}
}
