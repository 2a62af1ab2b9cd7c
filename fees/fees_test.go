package fees_test

import (
	"math"
	"math/big"
	"slices"
	"testing"

	"jobber/api"
	"jobber/fees"
)

const (
	topMoney = api.MaxMoney
	topFee   = api.MaxFee
	million  = api.Million
)

// tiers tells rows, of a From, a Maker and a Taker each.
func tiers(l ...int64) []api.Tier {
	var x []api.Tier
	for i := 0; i < len(l); i += 3 {
		x = append(x, api.Tier{From: l[i], Maker: l[i+1], Taker: l[i+2]})
	}
	return x
}

// tables are fee tables: small ones, and ones that reach the limits.
func tables() [][]api.Tier {
	return [][]api.Tier{
		tiers(0, 10, 30, 1000, 5, 20),
		tiers(0, 0, 0),
		tiers(0, 0, 0, 1, 0, 0),
		tiers(0, topFee, topFee),
		tiers(0, topFee, 0, topMoney, 0, topFee),
		tiers(0, 7, 3, 1, 9, 1),
		tiers(0, 1, 2, topMoney-1, 3, 4, topMoney, 5, 6),
		tiers(0, 8, 16, 1, 7, 15, 2, 6, 14, 3, 5, 13, 4, 4, 12, 5, 3, 11, 6, 2, 10, 7, 1, 9),
		tiers(0, 0, 250000/3, 100, 99999, 0, 1<<40, 31, 77),
	}
}

// wrongTables are lists that are no fee tables.
func wrongTables() [][]api.Tier {
	const top, low = math.MaxInt64, math.MinInt64
	return [][]api.Tier{
		nil,
		{},
		tiers(0, 1, 1, 1, 1, 1, 2, 1, 1, 3, 1, 1, 4, 1, 1, 5, 1, 1, 6, 1, 1, 7, 1, 1, 8, 1, 1),
		tiers(1, 1, 1),
		tiers(-1, 1, 1),
		tiers(-1, 1, 1, 0, 1, 1),
		tiers(low, 1, 1),
		tiers(topMoney, 1, 1),
		tiers(0, -1, 1),
		tiers(0, 1, -1),
		tiers(0, low, 1),
		tiers(0, 1, low),
		tiers(0, topFee+1, 1),
		tiers(0, 1, topFee+1),
		tiers(0, top, 1),
		tiers(0, 1, top),
		tiers(0, 1, 1, 0, 1, 1),
		tiers(0, 1, 1, -5, 1, 1),
		tiers(0, 1, 1, 5, 1, 1, 5, 2, 2),
		tiers(0, 1, 1, 5, 1, 1, 4, 2, 2),
		tiers(0, 1, 1, 5, 1, 1, 0, 2, 2),
		tiers(0, 1, 1, 5, -1, 1),
		tiers(0, 1, 1, 5, 1, topFee+1),
		tiers(0, 1, 1, 5, 1, topFee+1, 9, 1, 1),
		tiers(0, 1, 1, topMoney+1, 1, 1),
		tiers(0, 1, 1, topMoney, 1, 1, topMoney, 1, 1),
		tiers(0, 1, 1, topMoney, 1, 1, topMoney+1, 1, 1),
		tiers(0, 1, 1, top, 1, 1),
		tiers(0, 1, 1, 5, 1, 1, low, 1, 1),
		tiers(0, 1, 1, topMoney+1, 1, 1, 7, 1, 1),
	}
}

// volumes tells numbers from 0 on, those beside the rows' ends among them.
func volumes(t []api.Tier) []int64 {
	l := []int64{0, 1, 2, 3, 10, 998, 999, 1000, 1001, 1 << 40, topMoney - 1, topMoney, topMoney + 1, math.MaxInt64}
	for _, r := range t {
		l = append(l, r.From-1, r.From, r.From+1)
	}
	return slices.DeleteFunc(l, func(n int64) bool { return n < 0 })
}

// moneys tells notionals, from 0 to MaxMoney.
func moneys() []int64 {
	var l []int64
	for n := int64(0); n < 45; n++ {
		l = append(l, n, topMoney-n, topMoney/3+n)
	}
	for bit := range 62 {
		l = append(l, 1<<bit-1, 1<<bit, 1<<bit+1)
	}
	for _, n := range []int64{50, 100, 1000, 10000, 500000, million, 5 * million, 99 * million, million * million} {
		l = append(l, n-1, n, n+1)
	}
	slices.Sort(l)
	return slices.Compact(l)
}

// parts tells parts of a million that a fee may be.
func parts() []int64 {
	return []int64{0, 1, 2, 3, 5, 7, 10, 30, 100, 333, 1000, 12345, 50000, 65536, topFee - 1, topFee}
}

func rounds() []int { return []int{api.Down, api.Up, api.Even} }

func roles() []int { return []int{api.TakerFee, api.MakerFee} }

// noRounds are numbers that name neither a way to round nor a role.
func noRounds() []int { return []int{0, -1, 4, 5, 100, math.MaxInt, math.MinInt} }

// noMoneys are numbers that are no notionals.
func noMoneys() []int64 {
	return []int64{-1, -100, math.MinInt64, math.MinInt64 + 1, topMoney + 1, math.MaxInt64 - 1, math.MaxInt64}
}

// row tells a volume's row by the chapter's words.
func row(t []api.Tier, volume int64) api.Tier {
	last := t[0]
	for _, r := range t {
		if r.From <= volume {
			last = r
		}
	}
	return last
}

// rounded tells a notional times parts by a million, exactly, and then rounded.
func rounded(notional, part int64, round int) int64 {
	by := big.NewInt(million)
	n, rest := new(big.Int).DivMod(new(big.Int).Mul(big.NewInt(notional), big.NewInt(part)), by, new(big.Int))
	half := new(big.Int).Lsh(rest, 1).Cmp(by)
	if round == api.Up && rest.Sign() > 0 || round == api.Even && (half > 0 || half == 0 && n.Bit(0) == 1) {
		n.Add(n, big.NewInt(1))
	}
	return n.Int64()
}

func TestP8_1Check(t *testing.T) {
	for _, x := range tables() {
		if e := fees.Check(x); e != api.OK {
			t.Error(x, int(e))
		}
	}
	for _, x := range wrongTables() {
		if e := fees.Check(x); e != api.ErrRules {
			t.Error(x, int(e))
		}
	}
	for many := range 12 {
		var x []api.Tier
		for i := range many {
			x = append(x, api.Tier{From: int64(i), Maker: topFee})
		}
		if e := fees.Check(x); (e == api.OK) != (many >= 1 && many <= 8) {
			t.Error(many, int(e))
		}
	}
}

// Each number of each row is asked at its limits, and beyond them.
func TestP8_1CheckNumberByNumber(t *testing.T) {
	for _, x := range tables() {
		for i := range x {
			for _, c := range []struct {
				n     int64
				fits  bool
				money bool
			}{
				{math.MinInt64, false, false}, {-1, false, false}, {0, true, i == 0}, {topFee, true, false},
				{topFee + 1, false, false}, {topMoney + 1, false, false}, {math.MaxInt64, false, false},
			} {
				maker, taker := slices.Clone(x), slices.Clone(x)
				maker[i].Maker, taker[i].Taker = c.n, c.n
				if (fees.Check(maker) == api.OK) != c.fits || (fees.Check(taker) == api.OK) != c.fits {
					t.Error(i, c.n, x)
				}
				if from := slices.Clone(x[:i+1]); i == 0 || c.n < 1 || c.n > topMoney {
					from[i].From = c.n
					if (fees.Check(from) == api.OK) != c.money {
						t.Error("From", i, c.n, x)
					}
				}
			}
		}
	}
}

func TestP8_1TierByHand(t *testing.T) {
	x := tiers(0, 10, 30, 1000, 5, 20)
	for _, c := range []struct {
		volume int64
		want   api.Tier
	}{
		{0, x[0]}, {1, x[0]}, {999, x[0]}, {1000, x[1]}, {1001, x[1]}, {topMoney, x[1]}, {math.MaxInt64, x[1]},
		{-1, api.Tier{}}, {-1000, api.Tier{}}, {math.MinInt64, api.Tier{}},
	} {
		if r := fees.Tier(x, c.volume); r != c.want {
			t.Error(c.volume, r, c.want)
		}
	}
}

func TestP8_1TierByItsWords(t *testing.T) {
	for _, x := range tables() {
		for _, v := range volumes(x) {
			if r := fees.Tier(x, v); r != row(x, v) {
				t.Error(x, v, r)
			}
		}
		for _, v := range []int64{-1, -7, math.MinInt64} {
			if r := fees.Tier(x, v); r != (api.Tier{}) {
				t.Error(x, v, r)
			}
		}
	}
	for _, x := range wrongTables() {
		for _, v := range append(volumes(x), -1, math.MinInt64) {
			if r := fees.Tier(x, v); r != (api.Tier{}) {
				t.Error(x, v, r)
			}
		}
	}
}

func TestP8_2FeeByHand(t *testing.T) {
	for _, c := range []struct {
		notional, parts int64
		down, up, even  int64
	}{
		{100000, 30, 3, 3, 3},
		{100000, 20, 2, 2, 2},
		{0, topFee, 0, 0, 0},
		{topMoney, 0, 0, 0, 0},
		{1, 1, 0, 1, 0},
		{1, topFee, 0, 1, 0},
		{4, topFee, 0, 1, 0},
		{5, topFee, 0, 1, 0}, // just one half, beside 0
		{6, topFee, 0, 1, 1},
		{15, topFee, 1, 2, 2}, // just one half, beside an odd one
		{25, topFee, 2, 3, 2},
		{10, topFee, 1, 1, 1},
		{999999, 1, 0, 1, 1},
		{1000000, 1, 1, 1, 1},
		{1000001, 1, 1, 2, 1},
		{500000, 1, 0, 1, 0},
		{499999, 1, 0, 1, 0},
		{500001, 1, 0, 1, 1},
		{topMoney, topFee, 461168601842738790, 461168601842738791, 461168601842738790}, // a tenth of 2^62: .4 is left
		{topMoney, 1, 4611686018427, 4611686018428, 4611686018427},                     // .387904 is left
	} {
		for i, want := range []int64{c.down, c.up, c.even} {
			if n, e := fees.Fee(c.notional, c.parts, rounds()[i]); n != want || e != api.OK {
				t.Errorf("Fee(%d, %d, %d) = %d, %d, want %d", c.notional, c.parts, rounds()[i], n, int(e), want)
			}
		}
	}
}

func TestP8_2FeeExactly(t *testing.T) {
	for _, notional := range moneys() {
		for _, part := range parts() {
			for _, round := range rounds() {
				want := rounded(notional, part, round)
				if n, e := fees.Fee(notional, part, round); n != want || e != api.OK {
					t.Fatalf("Fee(%d, %d, %d) = %d, %d, want %d", notional, part, round, n, int(e), want)
				}
			}
		}
	}
}

func TestP8_2FeeOfWrongOnes(t *testing.T) {
	wrong := func(notional, part int64, round int) {
		t.Helper()
		if n, e := fees.Fee(notional, part, round); n != 0 || e != api.ErrArg {
			t.Errorf("Fee(%d, %d, %d) = %d, %d", notional, part, round, n, int(e))
		}
	}
	for _, no := range noMoneys() {
		for _, round := range rounds() {
			wrong(no, 0, round)
			wrong(no, 5, round)
			wrong(0, no, round)
			wrong(1000, no, round)
			wrong(no, no, round)
		}
	}
	for _, no := range []int64{topFee + 1, million, -2} {
		wrong(0, no, api.Down)
		wrong(1000, no, api.Even)
	}
	for _, no := range noRounds() {
		wrong(1000, 5, no)
		wrong(0, 0, no)
		wrong(topMoney, topFee, no)
	}
}

func TestP8_2OfByHand(t *testing.T) {
	x := tiers(0, 10, 30, 1000, 5, 20)
	for _, c := range []struct {
		volume, notional int64
		role, round      int
		want             int64
	}{
		{999, 100000, api.TakerFee, api.Down, 3},
		{1000, 100000, api.TakerFee, api.Down, 2},
		{999, 100000, api.MakerFee, api.Down, 1},
		{1000, 100000, api.MakerFee, api.Down, 0},
		{1000, 100000, api.MakerFee, api.Up, 1},
		{1000, 100000, api.MakerFee, api.Even, 0}, // just one half
		{1000, 300000, api.MakerFee, api.Even, 2},
		{0, 100000, api.TakerFee, api.Up, 3},
		{math.MaxInt64, 100000, api.TakerFee, api.Up, 2},
	} {
		if n, e := fees.Of(x, c.volume, c.notional, c.role, c.round); n != c.want || e != api.OK {
			t.Error(c, n, int(e))
		}
	}
}

func TestP8_2OfExactly(t *testing.T) {
	for _, x := range tables() {
		for _, v := range volumes(x) {
			for _, notional := range []int64{0, 1, 5, 33333, 500000, million, 1 << 41, topMoney - 1, topMoney} {
				for _, round := range rounds() {
					taker, maker := rounded(notional, row(x, v).Taker, round), rounded(notional, row(x, v).Maker, round)
					if n, e := fees.Of(x, v, notional, api.TakerFee, round); n != taker || e != api.OK {
						t.Fatal("taker", x, v, notional, round, n, int(e))
					}
					if n, e := fees.Of(x, v, notional, api.MakerFee, round); n != maker || e != api.OK {
						t.Fatal("maker", x, v, notional, round, n, int(e))
					}
				}
			}
		}
	}
}

func TestP8_2OfWrongOnes(t *testing.T) {
	wrong := func(want api.Errno, x []api.Tier, volume, notional int64, role, round int) {
		t.Helper()
		if n, e := fees.Of(x, volume, notional, role, round); n != 0 || e != want {
			t.Errorf("Of(%v, %d, %d, %d, %d) = %d, %d, want %d", x, volume, notional, role, round, n, int(e), int(want))
		}
	}
	for _, x := range wrongTables() {
		for _, role := range append(roles(), noRounds()...) { // ErrRules is named ahead of ErrArg
			wrong(api.ErrRules, x, 5, 1000, role, api.Down)
			wrong(api.ErrRules, x, -5, 1000, role, api.Down)
			wrong(api.ErrRules, x, 5, -1, role, api.Down)
			wrong(api.ErrRules, x, 5, 1000, role, 0)
		}
	}
	for _, x := range tables() {
		for _, role := range roles() {
			for _, no := range noMoneys() {
				wrong(api.ErrArg, x, 5, no, role, api.Up)
			}
			for _, no := range noRounds() {
				wrong(api.ErrArg, x, 5, 1000, role, no)
			}
			for _, no := range []int64{-1, -1000, math.MinInt64} {
				wrong(api.ErrArg, x, no, 1000, role, api.Even)
				wrong(api.ErrArg, x, no, 0, role, api.Even)
			}
		}
		for _, no := range append(noRounds(), 3) {
			wrong(api.ErrArg, x, 5, 1000, no, api.Even)
			wrong(api.ErrArg, x, 5, 0, no, api.Even)
		}
	}
}

func TestP8_2Top(t *testing.T) {
	for i, want := range []int64{30, 0, 0, topFee, topFee, 9, 6, 16, 99999} {
		if n := fees.Top(tables()[i]); n != want {
			t.Error(tables()[i], n, want)
		}
	}
	for _, x := range wrongTables() {
		if n := fees.Top(x); n != 0 {
			t.Error(x, n)
		}
	}
}

func TestP8_2LeavesItsTable(t *testing.T) {
	x := tiers(0, 5, 20, 70, 4, 10, -3, topFee+1, 0, 80, 900, 900) // what lies behind the second row counts for nothing
	want := slices.Clone(x)
	if fees.Check(x[:2]) != api.OK || fees.Top(x[:2]) != 20 || fees.Tier(x[:2], 100) != x[1] || fees.Tier(x[:1], 100) != x[0] {
		t.Error("it reads what lies behind")
	}
	if n, e := fees.Of(x[:2], 100, million, api.TakerFee, api.Down); n != 10 || e != api.OK {
		t.Error("it reads what lies behind", n, int(e))
	}
	if !slices.Equal(x, want) {
		t.Error(x)
	}
}

func TestP8_3FromNothingToTheNotional(t *testing.T) {
	for _, part := range parts() {
		for _, round := range rounds() {
			var less int64
			for _, notional := range moneys() { // they rise
				n, e := fees.Fee(notional, part, round)
				if e != api.OK || n < less || n > notional {
					t.Fatal(notional, part, round, n, less, int(e))
				}
				less = n
			}
		}
	}
	for _, notional := range moneys() {
		for _, round := range rounds() {
			var less int64
			for _, part := range parts() {
				n, e := fees.Fee(notional, part, round)
				if e != api.OK || n < less {
					t.Fatal("of more parts", notional, part, round, n, less, int(e))
				}
				less = n
			}
		}
	}
}

func TestP8_3NotAboveTheTop(t *testing.T) {
	for _, x := range tables() {
		for _, notional := range moneys() {
			for _, round := range rounds() {
				top, e := fees.Fee(notional, fees.Top(x), round)
				if e != api.OK {
					t.Fatal(x, int(e))
				}
				reached := false
				for _, v := range volumes(x) {
					for _, role := range roles() {
						n, e := fees.Of(x, v, notional, role, round)
						if e != api.OK || n < 0 || n > top || n > notional {
							t.Fatal(x, v, notional, role, round, n, top, int(e))
						}
						reached = reached || n == top
					}
				}
				if !reached {
					t.Fatal("nobody pays the top", x, notional, round, top)
				}
			}
		}
	}
}
