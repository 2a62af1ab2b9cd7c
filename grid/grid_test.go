package grid_test

import (
	"math"
	"math/big"
	"slices"
	"testing"

	"jobber/api"
	"jobber/grid"
)

// ticks tells rows, of a From and a Size each.
func ticks(l ...int64) []api.Tick {
	var x []api.Tick
	for i := 0; i < len(l); i += 2 {
		x = append(x, api.Tick{From: l[i], Size: l[i+1]})
	}
	return x
}

// tables are tick tables: small ones, and ones that reach the limits.
func tables() [][]api.Tick {
	const top = api.MaxPrice
	return [][]api.Tick{
		ticks(0, 1),
		ticks(0, 7),
		ticks(0, top),
		ticks(0, top-1),
		ticks(0, 1, 100, 5, 1000, 10),
		ticks(0, 5, 3, 4, 8, 1, 20, 9),
		ticks(0, 50, 10, 50, 20, 50), // the first row has no price
		ticks(0, 1, 1, 1, 2, 1, 3, 2, 4, 2, 5, 2, 6, 30, 7, 3),
		ticks(0, 9, 1, 20, 7, 100),
		ticks(0, 3, 30, 7, top-20, 6),
		ticks(0, 3, 30, top, top-20, 6, top, top),
		ticks(0, 3, 30, 7, top-20, 6, top-10, 40),
		ticks(0, 1<<20, 1<<39+3, 1<<20+1, top-1, top),
	}
}

// wrongTables are lists that are no tick tables.
func wrongTables() [][]api.Tick {
	const top = api.MaxPrice
	long := ticks(0, 1, 1, 1, 2, 1, 3, 1, 4, 1, 5, 1, 6, 1, 7, 1, 8, 1)
	return [][]api.Tick{
		nil,
		{},
		long,
		ticks(1, 1),
		ticks(-1, 1),
		ticks(-1, 1, 0, 1),
		ticks(math.MinInt64, 1),
		ticks(0, 0),
		ticks(0, -1),
		ticks(0, top+1),
		ticks(0, math.MaxInt64),
		ticks(0, math.MinInt64),
		ticks(0, 1, 0, 1),
		ticks(0, 1, 5, 1, 5, 2),
		ticks(0, 1, 5, 1, 4, 2),
		ticks(0, 1, 5, 1, -4, 2),
		ticks(0, 1, 5, 0),
		ticks(0, 1, 5, 0, 9, 1),
		ticks(0, 1, 5, 1, 9, top+1),
		ticks(0, 1, top+1, 1),
		ticks(0, 1, math.MaxInt64, 1),
		ticks(0, 1, 5, 1, math.MinInt64, 1),
		ticks(0, 1, top+1, 1, 7, 1),
	}
}

// near tells prices: all small ones, and all that lie near a row's ends, a limit, or a bit.
func near(t []api.Tick) []int64 {
	var l []int64
	for n := int64(1); n < 130; n++ {
		l = append(l, n, api.MaxPrice+1-n)
	}
	for _, r := range t {
		for d := int64(-12); d <= 12; d++ {
			l = append(l, r.From+d, r.From+r.Size+d, r.From+3*r.Size+d)
		}
	}
	for bit := range 41 {
		l = append(l, 1<<bit-1, 1<<bit, 1<<bit+1)
	}
	l = slices.DeleteFunc(l, func(n int64) bool { return n < 1 || n > api.MaxPrice })
	slices.Sort(l)
	return slices.Compact(l)
}

// noPrices are numbers that are no prices.
func noPrices() []int64 {
	return []int64{0, -1, -100, api.MaxPrice + 1, api.MaxPrice + 1000, math.MaxInt64, math.MinInt64, math.MinInt64 + 1}
}

// row tells a price's row by the chapter's words.
func row(t []api.Tick, price int64) api.Tick {
	for i := len(t) - 1; ; i-- {
		if t[i].From <= price {
			return t[i]
		}
	}
}

// on tells whether a number is on the grid by the chapter's words.
func on(t []api.Tick, price int64) bool {
	return price >= 1 && price <= api.MaxPrice && (price-row(t, price).From)%row(t, price).Size == 0
}

func TestP6_1Check(t *testing.T) {
	const top = api.MaxPrice
	for _, x := range tables() {
		if e := grid.Check(x); e != api.OK {
			t.Error(x, int(e))
		}
	}
	for _, x := range wrongTables() {
		if e := grid.Check(x); e != api.ErrRules {
			t.Error(x, int(e))
		}
	}
	for many := range 12 {
		var x []api.Tick
		for i := range many {
			x = append(x, api.Tick{From: int64(i), Size: top})
		}
		if e := grid.Check(x); (e == api.OK) != (many >= 1 && many <= 8) {
			t.Error(many, int(e))
		}
	}
}

func TestP6_1NothingOfWhatIsNone(t *testing.T) {
	nothing := func(x []api.Tick, price int64) {
		t.Helper()
		down, ok := grid.Down(x, price)
		up, well := grid.Up(x, price)
		if grid.Size(x, price) != 0 || grid.On(x, price) || down != 0 || ok || up != 0 || well {
			t.Error(x, price)
		}
	}
	for _, x := range wrongTables() {
		for _, price := range append(noPrices(), 1, 2, 5, 9, 100, api.MaxPrice) {
			nothing(x, price)
			if grid.Count(x, price, price) != 0 || grid.Count(x, 1, price) != 0 || grid.Count(x, price, api.MaxPrice) != 0 {
				t.Error(x, price)
			}
		}
	}
	for _, x := range tables() {
		for _, no := range noPrices() {
			nothing(x, no)
			if grid.Count(x, no, no) != 0 || grid.Count(x, 1, no) != 0 || grid.Count(x, no, api.MaxPrice) != 0 {
				t.Error(x, no)
			}
		}
	}
}

func TestP6_2ByHand(t *testing.T) {
	x := ticks(0, 1, 100, 5, 1000, 10)
	for _, c := range []struct {
		price, size, down, up int64
	}{
		{1, 1, 1, 1},
		{99, 1, 99, 99},
		{100, 5, 100, 100},
		{103, 5, 100, 105},
		{105, 5, 105, 105},
		{998, 5, 995, 1000},
		{1000, 10, 1000, 1000},
		{1001, 10, 1000, 1010},
		{api.MaxPrice - 1, 10, 1099511627770, 0}, // 2^40 is 1099511627776
		{api.MaxPrice, 10, 1099511627770, 0},
		{1099511627770, 10, 1099511627770, 1099511627770},
	} {
		down, ok := grid.Down(x, c.price)
		up, well := grid.Up(x, c.price)
		if grid.Size(x, c.price) != c.size || down != c.down || !ok || up != c.up || well != (c.up != 0) {
			t.Error(c, grid.Size(x, c.price), down, ok, up, well)
		}
		if grid.On(x, c.price) != (c.price == c.down) {
			t.Error(c.price)
		}
	}
	for _, c := range []struct{ low, high, want int64 }{
		{1, 1, 1}, {1, 99, 99}, {1, 100, 100}, {1, 104, 100}, {1, 105, 101}, {101, 104, 0}, {96, 110, 7},
		{100, 999, 180}, {995, 1010, 3}, {1001, 1009, 0}, {5, 4, 0}, {1000, 100, 0}, {1, api.MaxPrice, 99 + 180 + 109951162678},
	} {
		if n := grid.Count(x, c.low, c.high); n != c.want {
			t.Error(c, n)
		}
	}
}

func TestP6_2AtTheEnds(t *testing.T) {
	const top = api.MaxPrice
	for _, c := range []struct {
		x               []api.Tick
		price, down, up int64
	}{
		{ticks(0, 7), 6, 0, 7}, // 0 is no price
		{ticks(0, 7), 1, 0, 7},
		{ticks(0, 50, 10, 50), 9, 0, 10}, // the next row begins ahead of the next step
		{ticks(0, 50, 10, 50), 10, 10, 10},
		{ticks(0, 50, 10, 50), 11, 10, 60},
		{ticks(0, 5, 3, 4), 4, 3, 7}, // steps are counted from the row's From
		{ticks(0, top), 1, 0, top},
		{ticks(0, top), top, top, top},
		{ticks(0, top-1), top, top - 1, 0},
		{ticks(0, top, 1, top), 2, 1, 0},
		{ticks(0, top, 1, top, top, 1), 2, 1, top},
		{ticks(0, 3, 30, top, top, top), top - 1, 30, top},
		{ticks(0, 1, top, top), top, top, top},
	} {
		down, ok := grid.Down(c.x, c.price)
		up, well := grid.Up(c.x, c.price)
		if down != c.down || ok != (c.down != 0) || up != c.up || well != (c.up != 0) {
			t.Error(c, down, ok, up, well)
		}
	}
}

func TestP6_2SizeAndOnByTheirWords(t *testing.T) {
	for _, x := range tables() {
		for _, price := range near(x) {
			if s := grid.Size(x, price); s != row(x, price).Size {
				t.Fatal(x, price, s)
			}
			if grid.On(x, price) != on(x, price) {
				t.Fatal(x, price)
			}
		}
	}
}

// Among the first prices each is held against all that lie below it, and above it.
func TestP6_2DownUpAndCountByTheirWords(t *testing.T) {
	const many = 260
	for _, x := range tables() {
		for price := int64(1); price < many; price++ {
			var down, up, count int64
			for p := int64(1); p <= many; p++ {
				if !on(x, p) {
					continue
				}
				if p <= price {
					down = p
					count++
				}
				if p >= price && up == 0 {
					up = p
				}
			}
			if d, ok := grid.Down(x, price); d != down || ok != (down != 0) {
				t.Fatal("Down", x, price, d, ok)
			}
			if u, ok := grid.Up(x, price); up != 0 && (u != up || !ok) || up == 0 && u != 0 && u <= many {
				t.Fatal("Up", x, price, u, ok)
			}
			if n := grid.Count(x, 1, price); n != count {
				t.Fatal("Count", x, price, n, count)
			}
		}
	}
}

// grids tells how many prices on the grid are not above a price, row by row, by steps from the row's From.
func grids(x []api.Tick, top int64) *big.Int {
	all := new(big.Int)
	for i, r := range x {
		last := top
		if i+1 < len(x) && x[i+1].From <= last {
			last = x[i+1].From - 1
		}
		if last < r.From {
			continue
		}
		steps := new(big.Int).Div(big.NewInt(last-r.From), big.NewInt(r.Size))
		all.Add(all, steps)
		if r.From > 0 {
			all.Add(all, big.NewInt(1))
		}
	}
	return all
}

func TestP6_2CountExactly(t *testing.T) {
	for _, x := range tables() {
		l := near(x)
		for i, low := range l {
			for k := i; k < len(l); k += 7 {
				want := new(big.Int).Sub(grids(x, l[k]), grids(x, low-1)).Int64()
				if n := grid.Count(x, low, l[k]); n != want {
					t.Fatal(x, low, l[k], n, want)
				}
			}
			for k := range i {
				if n := grid.Count(x, low, l[k]); n != 0 {
					t.Fatal("the wrong way round", x, low, l[k], n)
				}
			}
		}
	}
}

func TestP6_3DownAndUp(t *testing.T) {
	for _, x := range tables() {
		for _, price := range near(x) {
			down, ok := grid.Down(x, price)
			up, well := grid.Up(x, price)
			if grid.On(x, price) {
				if down != price || up != price || !ok || !well || grid.Count(x, price, price) != 1 {
					t.Fatal(x, price, down, up)
				}
				continue
			}
			from, to := int64(1), int64(api.MaxPrice)
			if ok {
				from = down + 1
			}
			if well {
				to = up - 1
			}
			if from > price || to < price || grid.Count(x, from, to) != 0 || grid.Count(x, price, price) != 0 {
				t.Fatal(x, price, down, up)
			}
			if ok && !grid.On(x, down) || well && !grid.On(x, up) {
				t.Fatal(x, price, down, up)
			}
			for p := from; p <= min(to, from+50); p++ {
				if grid.On(x, p) {
					t.Fatal(x, price, p)
				}
			}
		}
	}
}

func TestP6_3CountsAddUp(t *testing.T) {
	for _, x := range tables() {
		l := near(x)
		for i := 0; i < len(l); i += 3 {
			for k := i + 1; k < len(l); k += 5 {
				mid := l[(i+k)/2]
				if mid == l[k] {
					continue
				}
				if grid.Count(x, l[i], mid)+grid.Count(x, mid+1, l[k]) != grid.Count(x, l[i], l[k]) {
					t.Fatal(x, l[i], mid, l[k])
				}
			}
		}
	}
}

func TestP6_2LeavesItsTable(t *testing.T) {
	x := ticks(0, 5, 20, 7, -3, 0, 1, 1) // what lies behind the second row counts for nothing
	if grid.Check(x[:2]) != api.OK || grid.Size(x[:2], 90) != 7 || grid.Count(x[:2], 1, 34) != 6 {
		t.Error("it reads what lies behind")
	}
	if up, ok := grid.Up(x[:1], 21); up != 25 || !ok {
		t.Error("it reads what lies behind", up)
	}
	if !slices.Equal(x, ticks(0, 5, 20, 7, -3, 0, 1, 1)) {
		t.Error(x)
	}
}
