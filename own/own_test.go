package own_test

import (
	"math"
	"math/big"
	"math/rand"
	"slices"
	"testing"

	"jobber/api"
	"jobber/own"
)

const topMoney = 1 << 62

// policies are all that there are.
func policies() []int {
	return []int{api.Allow, api.DropNew, api.DropOld, api.DropBoth}
}

// others are numbers that are no policy.
func others() []int {
	return []int{0, 5, -1, -2, -3, -4, 6, 1<<32 + 1, 1<<32 + 4, math.MaxInt, math.MinInt, math.MinInt + 1}
}

// by tells orders of these accounts, with IDs of their own and 5 each.
func by(accounts ...int) []api.Order {
	var l []api.Order
	for i, a := range accounts {
		l = append(l, api.Order{ID: uint64(100 + i), Account: a, Side: api.Sell, Price: 10, Qty: 5, Seq: uint64(i)})
	}
	return l
}

// of tells orders of these quantities, of the accounts 1, 2, 1, 2 ...
func of(qtys ...int64) []api.Order {
	var l []api.Order
	for i, n := range qtys {
		l = append(l, api.Order{ID: uint64(i), Account: 1 + i%2, Side: api.Buy, Price: 10, Qty: n})
	}
	return l
}

// ahead tells by the chapter's words how many stand ahead of the first own one.
func ahead(policy, account int, l []api.Order) int {
	n := 0
	for _, o := range l {
		if o.Account == account && policy != 1 {
			return n
		}
		n++
	}
	return n
}

// reached tells by the chapter's words how much could be traded.
func reached(policy, account int, l []api.Order, lot int64) (all *big.Int, stop bool) {
	all = new(big.Int)
	for _, o := range l {
		if o.Account == account && policy != 1 {
			if stop = policy == 2 || policy == 4; stop {
				break
			}
			continue
		}
		if o.Qty >= lot && lot > 0 {
			lots := new(big.Int).Div(big.NewInt(o.Qty), big.NewInt(lot))
			all.Add(all, lots.Mul(lots, big.NewInt(lot)))
		}
	}
	if top := big.NewInt(topMoney); all.Cmp(top) > 0 {
		all = top
	}
	return all, stop
}

// some tells orders of few accounts that chance chooses.
func some(src *rand.Rand) []api.Order {
	l := make([]api.Order, src.Intn(9))
	for i := range l {
		l[i] = api.Order{ID: uint64(src.Intn(50)), Account: src.Intn(4), Side: 1 + src.Intn(2), Price: 1 + src.Int63n(9), Qty: 1 + src.Int63n(12), Seq: uint64(i)}
	}
	return l
}

func TestP17_1Run(t *testing.T) {
	for i, c := range []struct {
		l                        []api.Order
		account                  int
		allow, new, old, neither int
	}{
		{nil, 2, 0, 0, 0, 0},
		{[]api.Order{}, 2, 0, 0, 0, 0},
		{by(2), 2, 1, 0, 0, 0},
		{by(1), 2, 1, 1, 1, 1},
		{by(1, 2, 3), 2, 3, 1, 1, 1},
		{by(1, 2, 3), 1, 3, 0, 0, 0},
		{by(1, 2, 3), 3, 3, 2, 2, 2},
		{by(1, 2, 3), 4, 3, 3, 3, 3},
		{by(1, 2, 2, 3, 2), 2, 5, 1, 1, 1},
		{by(0, 0, 0), 0, 3, 0, 0, 0},
		{by(-1, 1, math.MinInt), math.MinInt, 3, 2, 2, 2},
		{by(-1, 1, math.MaxInt), -1, 3, 0, 0, 0},
	} {
		for j, want := range []int{c.allow, c.new, c.old, c.neither} {
			if got := own.Run(policies()[j], c.account, c.l); got != want {
				t.Error(i, policies()[j], got, want)
			}
		}
	}
}

func TestP17_1RunOfManyAndOfAnything(t *testing.T) {
	l := make([]api.Order, 1000) // of the account 0, and no order that may be
	l[700].Account = 5
	for _, policy := range policies() {
		if got, want := own.Run(policy, 5, l), ahead(policy, 5, l); got != want {
			t.Error(policy, got, want)
		}
		if got, want := own.Run(policy, 0, l), ahead(policy, 0, l); got != want {
			t.Error(policy, got, want)
		}
	}
}

func TestP17_1DropsAndStops(t *testing.T) {
	drops, stops := []bool{false, false, true, true}, []bool{false, true, false, true}
	for i, policy := range policies() {
		if own.Drops(policy) != drops[i] || own.Stops(policy) != stops[i] {
			t.Error(policy, own.Drops(policy), own.Stops(policy))
		}
	}
}

func TestP17_1Meet(t *testing.T) {
	l := by(1, 2, 3, 2)
	for i, c := range []struct {
		policy, account int
		run             int
		drop            []uint64
		stop            bool
	}{
		{api.Allow, 2, 4, nil, false},
		{api.DropNew, 2, 1, nil, true},
		{api.DropOld, 2, 1, []uint64{101}, false}, // one alone, though there is another one
		{api.DropBoth, 2, 1, []uint64{101}, true},
		{api.Allow, 1, 4, nil, false},
		{api.DropNew, 1, 0, nil, true},
		{api.DropOld, 1, 0, []uint64{100}, false},
		{api.DropBoth, 1, 0, []uint64{100}, true},
		{api.DropNew, 3, 2, nil, true},
		{api.DropOld, 3, 2, []uint64{102}, false},
		{api.DropBoth, 3, 2, []uint64{102}, true},
		{api.Allow, 7, 4, nil, false}, // nobody is own
		{api.DropNew, 7, 4, nil, false},
		{api.DropOld, 7, 4, nil, false},
		{api.DropBoth, 7, 4, nil, false},
	} {
		run, drop, stop := own.Meet(c.policy, c.account, l)
		if !slices.Equal(run, l[:c.run]) || !slices.Equal(drop, c.drop) || stop != c.stop {
			t.Error(i, run, drop, stop)
		}
	}
	for _, policy := range policies() {
		for _, none := range [][]api.Order{nil, {}} {
			if run, drop, stop := own.Meet(policy, 0, none); len(run) != 0 || len(drop) != 0 || stop {
				t.Error(policy, run, drop, stop)
			}
		}
	}
}

func TestP17_1OfNoPolicy(t *testing.T) {
	for _, policy := range others() {
		if own.Drops(policy) || own.Stops(policy) {
			t.Error(policy, own.Drops(policy), own.Stops(policy))
		}
		for _, l := range [][]api.Order{nil, {}, by(1), by(1, 2, 3), by(2, 2)} {
			if n := own.Run(policy, 2, l); n != 0 {
				t.Error(policy, n)
			}
			if run, drop, stop := own.Meet(policy, 2, l); len(run) != 0 || len(drop) != 0 || !stop {
				t.Error(policy, run, drop, stop)
			}
		}
	}
}

func TestP17_1MeetIsInMemoryOfItsOwn(t *testing.T) {
	room := by(1, 3, 2, 3, 1, 1)
	was := slices.Clone(room)
	for _, policy := range policies() {
		for _, account := range []int{1, 2, 3, 4} {
			first, _, _ := own.Meet(policy, account, room[:4])
			second, _, _ := own.Meet(policy, account, room[:4])
			want := slices.Clone(first)
			clear(first[:cap(first)])
			if !slices.Equal(second, want) || !slices.Equal(room, was) {
				t.Error("a run shares a list", policy, account)
			}
			_ = append(second, api.Order{ID: 9})
			if !slices.Equal(room, was) {
				t.Error("a run shares spare room", policy, account)
			}
		}
	}
}

func TestP17_1ByItsWords(t *testing.T) {
	src := rand.New(rand.NewSource(171))
	for range 5000 {
		l, account := some(src), src.Intn(5)
		was := slices.Clone(l)
		for _, policy := range policies() {
			n := ahead(policy, account, l)
			if got := own.Run(policy, account, l); got != n {
				t.Fatal(policy, account, l, got, n)
			}
			var want []uint64
			if n < len(l) && policy >= 3 {
				want = []uint64{l[n].ID}
			}
			stops := n < len(l) && policy%2 == 0
			run, drop, stop := own.Meet(policy, account, l)
			if !slices.Equal(run, l[:n]) || !slices.Equal(drop, want) || stop != stops {
				t.Fatal(policy, account, l, run, drop, stop)
			}
		}
		if !slices.Equal(l, was) {
			t.Fatal("what was handed in is changed", was, l)
		}
	}
}

func TestP17_2Reach(t *testing.T) {
	type answer struct {
		qty  int64
		stop bool
	}
	for i, c := range []struct {
		l                        []api.Order
		account                  int
		lot                      int64
		allow, new, old, neither answer
	}{
		{nil, 1, 1, answer{}, answer{}, answer{}, answer{}},
		{of(7), 2, 1, answer{7, false}, answer{7, false}, answer{7, false}, answer{7, false}},
		{of(7), 1, 1, answer{7, false}, answer{0, true}, answer{0, false}, answer{0, true}},
		{of(7, 8, 9), 2, 1, answer{24, false}, answer{7, true}, answer{16, false}, answer{7, true}},
		{of(7, 8, 9), 1, 1, answer{24, false}, answer{0, true}, answer{8, false}, answer{0, true}},
		{of(7, 8, 9), 3, 1, answer{24, false}, answer{24, false}, answer{24, false}, answer{24, false}},
		{of(7, 8, 9), 2, 5, answer{15, false}, answer{5, true}, answer{10, false}, answer{5, true}}, // each one in whole lots
		{of(7, 8, 9), 3, 10, answer{0, false}, answer{0, false}, answer{0, false}, answer{0, false}},
		{of(7, 8, 9, 10), 2, 1, answer{34, false}, answer{7, true}, answer{16, false}, answer{7, true}},
		{of(7, 8, 9, 10), 1, 4, answer{28, false}, answer{0, true}, answer{16, false}, answer{0, true}},
	} {
		for j, want := range []answer{c.allow, c.new, c.old, c.neither} {
			if qty, stop := own.Reach(policies()[j], c.account, c.l, c.lot); (answer{qty, stop}) != want {
				t.Error(i, policies()[j], qty, stop, want)
			}
		}
	}
}

func TestP17_2OfNoPolicy(t *testing.T) {
	for _, policy := range others() {
		for _, l := range [][]api.Order{nil, {}, of(7), of(7, 8, 9)} {
			for _, lot := range []int64{0, 1, 5} {
				if qty, stop := own.Reach(policy, 2, l, lot); qty != 0 || !stop {
					t.Error(policy, lot, qty, stop)
				}
			}
		}
	}
}

// wild tells numbers of the whole range, and those beside the limits.
func wild() []int64 {
	l := []int64{math.MinInt64, math.MinInt64 + 1, -1, 0, 1, 2, 3, 999, math.MaxInt64 - 1, math.MaxInt64}
	for _, n := range []int64{1 << 40, 1 << 56, 1 << 61, topMoney} {
		l = append(l, n-1, n, n+1)
	}
	return l
}

func TestP17_2IsAtMostMaxMoney(t *testing.T) {
	lists := [][]api.Order{of(slices.Repeat([]int64{1 << 40}, 64)...), of(slices.Repeat([]int64{1 << 60}, 64)...)}
	for _, n := range wild() {
		lists = append(lists, of(n), of(1, n), of(n, 1), of(n, 1, n), of(n, n, n, n), of(topMoney-1, 9, n), of(-1, n, math.MaxInt64))
	}
	for _, l := range lists {
		for _, policy := range policies() {
			for _, account := range []int{1, 2, 3} {
				for _, lot := range wild() {
					want, stops := reached(policy, account, l, lot)
					qty, stop := own.Reach(policy, account, l, lot)
					if want.Cmp(big.NewInt(qty)) != 0 || stop != stops {
						t.Fatal(policy, account, l, lot, qty, stop, want, stops)
					}
				}
			}
		}
	}
}

func TestP17_2ByItsWords(t *testing.T) {
	src := rand.New(rand.NewSource(172))
	for range 5000 {
		l, account, lot := some(src), src.Intn(5), src.Int63n(6)-1
		was := slices.Clone(l)
		for _, policy := range policies() {
			want, stops := reached(policy, account, l, lot)
			qty, stop := own.Reach(policy, account, l, lot)
			if want.Cmp(big.NewInt(qty)) != 0 || stop != stops {
				t.Fatal(policy, account, l, lot, qty, stop, want, stops)
			}
		}
		if !slices.Equal(l, was) {
			t.Fatal("what was handed in is changed", was, l)
		}
	}
}

func TestP17_2IsOneOwnOneAfterTheOther(t *testing.T) {
	src := rand.New(rand.NewSource(1722))
	for range 2000 {
		l, account := some(src), src.Intn(5)
		for _, policy := range policies() {
			var want int64
			rest, stops := l, false
			for len(rest) > 0 && !stops {
				run, _, stop := own.Meet(policy, account, rest)
				for _, o := range run {
					want += o.Qty
				}
				rest, stops = rest[min(len(run)+1, len(rest)):], stop
			}
			if qty, stop := own.Reach(policy, account, l, 1); qty != want || stop != stops {
				t.Fatal(policy, account, l, qty, stop, want, stops)
			}
		}
	}
}

func TestP17_3WhatFollows(t *testing.T) {
	src := rand.New(rand.NewSource(173))
	for range 5000 {
		l, account, lot := some(src), src.Intn(5), 1+src.Int63n(4)
		var all int64
		for _, o := range l {
			all += o.Qty
		}
		for _, policy := range policies() {
			isOwn := func(o api.Order) bool { return o.Account == account && policy != api.Allow }
			n := own.Run(policy, account, l)
			run, _, _ := own.Meet(policy, account, l)
			if slices.ContainsFunc(l[:n], isOwn) || slices.ContainsFunc(run, isOwn) || len(run) != n {
				t.Fatal("one of a run is own", policy, account, l, n)
			}
			if n < len(l) && !isOwn(l[n]) {
				t.Fatal("no own one stands behind", policy, account, l, n)
			}
			if qty, _ := own.Reach(policy, account, l, lot); qty < 0 || qty > all {
				t.Fatal("more than all have", policy, account, l, lot, qty)
			}
		}
	}
}

func TestTheChaptersExample(t *testing.T) {
	l := by(1, 2, 3)
	run, drop, stop := own.Meet(api.DropOld, 2, l)
	if len(run) != 1 || run[0] != l[0] || len(drop) != 1 || drop[0] != l[1].ID || stop {
		t.Fatal(run, drop, stop)
	}
	run, drop, stop = own.Meet(api.DropOld, 2, l[2:])
	if len(run) != 1 || run[0] != l[2] || len(drop) != 0 || stop {
		t.Fatal(run, drop, stop)
	}
}
