package rules_test

import (
	"encoding/binary"
	"math"
	"math/rand"
	"reflect"
	"slices"
	"testing"

	"jobber/api"
	"jobber/codec"
	"jobber/fault"
	"jobber/grid"
	"jobber/limits"
	"jobber/rules"
)

// plain tells a rule set of steps of 5 and lots of 10, with a band of 5 percent.
func plain() api.Rules {
	return api.Rules{
		Version:  3,
		Ticks:    []api.Tick{{From: 0, Size: 5}, {From: 1000, Size: 50}},
		Lot:      10,
		Band:     50000,
		Fees:     []api.Tier{{From: 0, Maker: 10, Taker: 30}, {From: 700, Maker: 5, Taker: 20}},
		Round:    api.Even,
		Priority: api.ByShare,
		Self:     api.DropOld,
		Layout:   api.Grove,
	}
}

// least tells a rule set whose numbers are as small as they may be.
func least() api.Rules {
	return api.Rules{
		Version: 1, Ticks: []api.Tick{{From: 0, Size: 1}}, Lot: 1, Band: 0, Fees: []api.Tier{{}},
		Round: api.Down, Priority: api.ByTime, Self: api.Allow, Layout: api.Ladder,
	}
}

// most tells a rule set whose numbers are as great as they may be, and whose lists are as long.
func most() api.Rules {
	r := api.Rules{
		Version: api.MaxVersion, Lot: api.MaxQty, Band: api.Million,
		Round: api.Even, Priority: api.ByShare, Self: api.DropBoth, Layout: api.Grove,
	}
	for i := range int64(8) {
		r.Ticks = append(r.Ticks, api.Tick{From: i * (api.MaxPrice / 7), Size: api.MaxPrice - i})
		r.Fees = append(r.Fees, api.Tier{From: i * (api.MaxMoney / 7), Maker: api.MaxFee - i, Taker: api.MaxFee})
	}
	r.Ticks[7].From, r.Fees[7].From = api.MaxPrice, api.MaxMoney
	return r
}

func good() []api.Rules {
	small := least()
	small.Version, small.Round, small.Self = 2, api.Up, api.DropNew
	return []api.Rules{plain(), least(), most(), small}
}

// turned tells a rule set with something of it changed.
func turned(r api.Rules, change func(r *api.Rules)) api.Rules {
	r.Ticks, r.Fees = slices.Clone(r.Ticks), slices.Clone(r.Fees)
	change(&r)
	return r
}

// spoilt is a change by which a rule set may not be, and what is told of it.
type spoilt struct {
	text   string
	change func(r *api.Rules)
}

// spoils are changes in the order in which they are told.
func spoils() []spoilt {
	return []spoilt{
		{"9 60", func(r *api.Rules) { r.Version = 0 }},
		{"9>6 43", func(r *api.Rules) { r.Ticks[0].Size = 0 }},
		{"9 2", func(r *api.Rules) { r.Lot = 0 }},
		{"9 2", func(r *api.Rules) { r.Band = -1 }},
		{"9>8 43", func(r *api.Rules) { r.Fees[0].Maker = -1 }},
		{"9 43", func(r *api.Rules) { r.Round = 0 }},
		{"9 43", func(r *api.Rules) { r.Priority = 0 }},
		{"9 43", func(r *api.Rules) { r.Self = 0 }},
		{"9 43", func(r *api.Rules) { r.Layout = 0 }},
	}
}

// wild are numbers far off.
func wild() []int64 {
	return []int64{math.MinInt64, math.MinInt64 + 1, -1 << 32, -1000, 1<<40 + 1, 1 << 41, 1 << 62, math.MaxInt64 - 1, math.MaxInt64}
}

// tells holds an error against the text it should have, and its number and layers with it.
func tells(t *testing.T, err error, text string, why ...any) {
	t.Helper()
	if got := fault.Text(err); got != text || (err == nil) != (text == "") {
		t.Errorf("%v: %q, want %q", why, got, text)
	}
	var f *fault.Fault
	if err != nil {
		f, _ = err.(*fault.Fault)
		if f == nil || f.Layer != 9 {
			t.Errorf("%v: no fault of this layer", why)
		}
	}
}

func TestP9_1CheckOfGood(t *testing.T) {
	for _, r := range good() {
		if err := rules.Check(r); err != nil {
			t.Error(r, fault.Text(err))
		}
	}
}

func TestP9_1CheckNumberByNumber(t *testing.T) {
	for _, c := range []struct {
		text      string
		low, high int64
		change    func(r *api.Rules, n int64)
	}{
		{"9 60", 1, 32, func(r *api.Rules, n int64) { r.Version = int(n) }},
		{"9 2", 1, 1 << 40, func(r *api.Rules, n int64) { r.Lot = n }},
		{"9 2", 0, 1000000, func(r *api.Rules, n int64) { r.Band = n }},
		{"9 43", 1, 3, func(r *api.Rules, n int64) { r.Round = int(n) }},
		{"9 43", 1, 2, func(r *api.Rules, n int64) { r.Priority = int(n) }},
		{"9 43", 1, 4, func(r *api.Rules, n int64) { r.Self = int(n) }},
		{"9 43", 1, 2, func(r *api.Rules, n int64) { r.Layout = int(n) }},
	} {
		ask := append(wild(), 1<<32+1, 1<<33+2, c.low-2, c.low-1, c.low, c.low+1, (c.low+c.high)/2, c.high-1, c.high, c.high+1, c.high+2)
		for _, n := range ask {
			for _, r := range good() {
				want := c.text
				if c.low <= n && n <= c.high {
					want = ""
				}
				tells(t, rules.Check(turned(r, func(r *api.Rules) { c.change(r, n) })), want, n)
			}
		}
	}
}

func TestP9_1CheckOfTables(t *testing.T) {
	for i, c := range []struct {
		text   string
		change func(r *api.Rules)
	}{
		{"9>6 43", func(r *api.Rules) { r.Ticks = nil }},
		{"9>6 43", func(r *api.Rules) { r.Ticks = []api.Tick{} }},
		{"9>6 43", func(r *api.Rules) { r.Ticks = append(most().Ticks[:7], api.Tick{From: 1 << 39, Size: 1}) }},
		{"9>6 43", func(r *api.Rules) { r.Ticks[0].From = 1 }},
		{"9>6 43", func(r *api.Rules) { r.Ticks = append(r.Ticks, r.Ticks[0]) }},
		{"9>6 43", func(r *api.Rules) { r.Ticks = append(most().Ticks, api.Tick{From: 1<<40 + 1, Size: 1}) }},
		{"9>6 43", func(r *api.Rules) { r.Ticks[0].Size = 1<<40 + 1 }},
		{"9>8 43", func(r *api.Rules) { r.Fees = nil }},
		{"9>8 43", func(r *api.Rules) { r.Fees = []api.Tier{} }},
		{"9>8 43", func(r *api.Rules) { r.Fees[0].From = 1 }},
		{"9>8 43", func(r *api.Rules) { r.Fees = append(r.Fees, r.Fees[0]) }},
		{"9>8 43", func(r *api.Rules) { r.Fees[0].Taker = 100001 }},
		{"9>8 43", func(r *api.Rules) { r.Fees[0].Maker = math.MinInt64 }},
		{"", func(r *api.Rules) { r.Ticks, r.Fees = most().Ticks, most().Fees }},
		{"", func(r *api.Rules) { r.Ticks, r.Fees = least().Ticks, least().Fees }},
	} {
		for _, r := range good() {
			tells(t, rules.Check(turned(r, c.change)), c.text, i)
		}
	}
	for many := range 12 {
		r := plain()
		r.Ticks, r.Fees = nil, nil
		for i := range int64(many) {
			r.Ticks = append(r.Ticks, api.Tick{From: i, Size: 1})
			r.Fees = append(r.Fees, api.Tier{From: i})
		}
		if err := rules.Check(r); (err == nil) != (many >= 1 && many <= 8) {
			t.Error(many, fault.Text(err))
		}
	}
}

func TestP9_1CheckTellsTheFirst(t *testing.T) {
	l := spoils()
	for _, r := range good() {
		for i, first := range l {
			tells(t, rules.Check(turned(r, first.change)), first.text, i)
			for j, other := range l[i:] {
				both := turned(turned(r, other.change), first.change)
				tells(t, rules.Check(both), first.text, i, i+j)
			}
			all := turned(r, func(r *api.Rules) {
				for _, s := range l[i:] {
					s.change(r)
				}
			})
			tells(t, rules.Check(all), first.text, "all from", i)
		}
	}
	tells(t, rules.Check(api.Rules{}), "9 60")
}

func TestP9_1ErrorsAreFaults(t *testing.T) {
	for _, c := range []struct {
		r      api.Rules
		code   api.Errno
		layers []int
	}{
		{api.Rules{}, api.ErrVersion, []int{9}},
		{api.Rules{Version: 1}, api.ErrRules, []int{9, 6}},
		{turned(plain(), func(r *api.Rules) { r.Lot = 0 }), api.ErrArg, []int{9}},
		{turned(plain(), func(r *api.Rules) { r.Fees = nil }), api.ErrRules, []int{9, 8}},
		{turned(plain(), func(r *api.Rules) { r.Layout = 3 }), api.ErrRules, []int{9}},
	} {
		err := rules.Check(c.r)
		if fault.Code(err) != c.code || !fault.Has(err, c.code) || !slices.Equal(fault.Layers(err), c.layers) {
			t.Error(fault.Text(err), c.code, c.layers)
		}
	}
}

func TestP9_2FitsByHand(t *testing.T) {
	for _, c := range []struct {
		last       int64
		side, kind int
		price, qty int64
		text       string
	}{
		{0, api.Buy, api.Limit, 15, 10, ""},
		{0, api.Buy, api.Limit, 12, 10, "9>6 40"}, // the chapter's
		{0, api.Buy, api.Limit, 15, 155, "9>7 41"},
		{0, api.Buy, api.Limit, 12, 155, "9>6 40"},
		{100, api.Buy, api.Limit, 105, 20, ""},
		{100, api.Buy, api.Limit, 95, 20, ""},
		{100, api.Sell, api.Now, 110, 20, "9>7 42"},
		{100, api.Sell, api.Whole, 90, 20, "9>7 42"},
		{100, api.Sell, api.Post, 90, 25, "9>7 41"},
		{100, api.Sell, api.Post, 91, 20, "9>6 40"},
		{100, api.Sell, api.Limit, 1050, 20, "9>7 42"},
		{1000, api.Sell, api.Limit, 1050, 20, ""},
		{1000, api.Sell, api.Limit, 1005, 20, "9>6 40"},
		{1000, api.Sell, api.Limit, 950, 20, ""},
		{1000, api.Sell, api.Limit, 945, 20, "9>7 42"},
		{100, api.Sell, api.Limit, 0, 20, "9>6 40"},
		{100, api.Sell, api.Limit, -5, 20, "9>6 40"},
		{0, api.Sell, api.Limit, 1 << 40, 20, "9>6 40"}, // no multiple of 50 behind 1000
		{0, api.Sell, api.Limit, 1<<40 - 1<<40%50, 1<<40 - 1<<40%10, ""},
		{0, api.Sell, api.Limit, 15, 1 << 40, "9>7 41"},
		{0, api.Sell, api.Limit, 15, 0, "9>7 41"},
		{0, api.Sell, api.Limit, 15, -10, "9>7 41"},
		{-1, api.Sell, api.Limit, 15, 10, "9>7 2"},
		{1<<40 + 1, api.Sell, api.Limit, 15, 10, "9>7 2"},
		{-1, api.Sell, api.Limit, 15, 15, "9>7 41"},
		{-1, api.Sell, api.Limit, 16, 15, "9>6 40"},
		{-1, api.Sell, api.Market, 16, 10, ""},
		{100, api.Buy, api.Market, 0, 10, ""},
		{100, api.Buy, api.Market, 5000, 10, ""},
		{100, api.Buy, api.Market, 12, 15, "9>7 41"},
		{100, api.Buy, api.Market, -5, 0, "9>7 41"},
		{math.MaxInt64, api.Buy, api.Market, math.MinInt64, 1<<40 - 6, ""},
		{0, 0, api.Limit, 15, 10, "9 2"},
		{0, 3, api.Limit, 15, 10, "9 2"},
		{0, api.Buy, 0, 15, 10, "9 2"},
		{0, api.Buy, 6, 15, 10, "9 2"},
		{0, 3, 6, 12, 155, "9 2"},
		{0, 3, api.Market, 12, 155, "9 2"},
		{-1, 0, api.Limit, 12, 155, "9 2"},
		{-1, api.Buy, -1, 12, 155, "9 2"},
	} {
		err := rules.Fits(plain(), c.last, c.side, c.kind, c.price, c.qty)
		tells(t, err, c.text, c)
	}
}

// onGrid tells by its words whether a price is on the grid of a table that may be.
func onGrid(ticks []api.Tick, price int64) bool {
	if price < 1 || price > api.MaxPrice {
		return false
	}
	row := ticks[0]
	for _, t := range ticks {
		if t.From <= price {
			row = t
		}
	}
	return (price-row.From)%row.Size == 0
}

// fits tells by the chapter's words what Fits should tell, of small numbers.
func fits(r api.Rules, last int64, side, kind int, price, qty int64) string {
	if side != 1 && side != 2 || kind < 1 || kind > 5 {
		return "9 2"
	}
	if kind != 2 && !onGrid(r.Ticks, price) {
		return "9>6 40"
	}
	if qty < 1 || qty > api.MaxQty || qty%r.Lot != 0 {
		return "9>7 41"
	}
	if kind == 2 {
		return ""
	}
	if last < 0 || last > api.MaxPrice {
		return "9>7 2"
	}
	way := max(price-last, last-price)
	if last > 0 && r.Band > 0 && way*1000000 > last*r.Band {
		return "9>7 42"
	}
	return ""
}

func TestP9_2FitsByItsWords(t *testing.T) {
	small := plain()
	small.Ticks, small.Lot, small.Band = []api.Tick{{From: 0, Size: 2}, {From: 7, Size: 3}, {From: 20, Size: 1}}, 3, 250000
	open := turned(small, func(r *api.Rules) { r.Band = 0 })
	wide := turned(small, func(r *api.Rules) { r.Band = api.Million })
	for _, r := range []api.Rules{small, open, wide, least()} {
		for side := range 4 {
			for kind := range 7 {
				for _, last := range []int64{-1, 0, 1, 8, 13, 24} {
					for price := int64(-2); price < 34; price++ {
						for qty := int64(-3); qty < 8; qty++ {
							if text := fault.Text(rules.Fits(r, last, side, kind, price, qty)); text != fits(r, last, side, kind, price, qty) {
								t.Fatal(r, last, side, kind, price, qty, text)
							}
						}
					}
				}
			}
		}
	}
}

func TestP9_2FitsOfWildNumbers(t *testing.T) {
	for _, n := range append(wild(), 0, -7) {
		for _, r := range good() {
			price, qty := r.Ticks[0].Size, r.Lot
			tells(t, rules.Fits(r, 0, int(n), api.Limit, price, qty), "9 2", n)
			tells(t, rules.Fits(r, 0, api.Buy, int(n), price, qty), "9 2", n)
			tells(t, rules.Fits(r, 0, api.Buy, api.Limit, n, qty), "9>6 40", n)
			tells(t, rules.Fits(r, 0, api.Buy, api.Limit, price, n), "9>7 41", n)
			tells(t, rules.Fits(r, 0, api.Buy, api.Market, price, n), "9>7 41", n)
			tells(t, rules.Fits(r, n, api.Buy, api.Market, n, qty), "", n)
			if n != 0 {
				tells(t, rules.Fits(r, n, api.Sell, api.Post, price, qty), "9>7 2", n)
			}
		}
	}
}

func TestP9_2FitsOfRulesThatMayNotBe(t *testing.T) {
	for _, s := range spoils() {
		for _, r := range good() {
			r := turned(r, s.change)
			tells(t, rules.Fits(r, 0, api.Buy, api.Limit, 5, 10), "9 43", s.text)
			tells(t, rules.Fits(r, 0, api.Buy, api.Market, 5, 10), "9 43", s.text)
			tells(t, rules.Fits(r, -1, 0, 0, -5, -10), "9 43", s.text)
		}
	}
	tells(t, rules.Fits(api.Rules{}, 0, 0, 0, 0, 0), "9 43")
}

// changes tells rule sets each of which differs from r in one thing alone.
func changes(r api.Rules) []api.Rules {
	var l []api.Rules
	for _, change := range []func(r *api.Rules){
		func(r *api.Rules) { r.Version++ },
		func(r *api.Rules) { r.Lot-- },
		func(r *api.Rules) { r.Band++ },
		func(r *api.Rules) { r.Round-- },
		func(r *api.Rules) { r.Priority++ },
		func(r *api.Rules) { r.Self-- },
		func(r *api.Rules) { r.Layout++ },
		func(r *api.Rules) { r.Ticks = nil },
		func(r *api.Rules) { r.Fees = nil },
		func(r *api.Rules) { r.Ticks = append(r.Ticks, api.Tick{}) },
		func(r *api.Rules) { r.Fees = append(r.Fees, api.Tier{}) },
		func(r *api.Rules) { r.Ticks[len(r.Ticks)-1].From++ },
		func(r *api.Rules) { r.Ticks[0].Size++ },
		func(r *api.Rules) { r.Fees[len(r.Fees)-1].From++ },
		func(r *api.Rules) { r.Fees[0].Maker++ },
		func(r *api.Rules) { r.Fees[len(r.Fees)-1].Taker-- },
	} {
		l = append(l, turned(r, change))
	}
	return l
}

func TestP9_3Same(t *testing.T) {
	for _, r := range good() {
		if !rules.Same(r, r) || !rules.Same(r, turned(r, func(*api.Rules) {})) {
			t.Error("not the same as itself", r)
		}
		for i, other := range changes(r) {
			if rules.Same(r, other) || rules.Same(other, r) {
				t.Error("the same, though changed", i)
			}
			if !rules.Same(other, other) { // whether they may be counts for nothing
				t.Error("not the same as itself", i)
			}
		}
	}
	if rules.Same(plain(), least()) || rules.Same(plain(), api.Rules{}) {
		t.Error("different ones are the same")
	}
	empty := api.Rules{Ticks: []api.Tick{}, Fees: make([]api.Tier, 0, 5)}
	if !rules.Same(api.Rules{}, empty) || !rules.Same(empty, api.Rules{}) {
		t.Error("nil and empty lists differ")
	}
	turnedAround := turned(plain(), func(r *api.Rules) { slices.Reverse(r.Ticks) })
	if rules.Same(plain(), turnedAround) {
		t.Error("rows in another order are the same")
	}
}

func TestP9_3Copy(t *testing.T) {
	all := append(good(), api.Rules{}, api.Rules{Ticks: []api.Tick{}})
	for _, r := range append(all, changes(plain())...) {
		if c := rules.Copy(r); !rules.Same(c, r) {
			t.Error(r, c)
		}
	}
	r := plain()
	c := rules.Copy(r)
	c.Ticks[0].Size, c.Fees[1].Taker = 7, 8
	if !reflect.DeepEqual(r, plain()) {
		t.Error("a copy shares its memory", r)
	}
	c = rules.Copy(r)
	r.Ticks[1].From, r.Fees[0].Maker = 7, 8
	if !reflect.DeepEqual(c, plain()) {
		t.Error("a copy shares its memory", c)
	}
}

// roomy tells a rule set whose lists have spare room with something in it, and a call that tells whether that stands there still.
func roomy(r api.Rules) (api.Rules, func() bool) {
	tick, tier := api.Tick{From: 77, Size: 78}, api.Tier{From: 79, Maker: 80, Taker: 81}
	ticks, tiers := append(slices.Clone(r.Ticks), tick), append(slices.Clone(r.Fees), tier)
	r.Ticks, r.Fees = ticks[:len(ticks)-1], tiers[:len(tiers)-1]
	return r, func() bool { return ticks[len(ticks)-1] == tick && tiers[len(tiers)-1] == tier }
}

func TestP9_3WhatIsHandedInStays(t *testing.T) {
	for _, want := range good() {
		r, stands := roomy(want)
		c := rules.Copy(r)
		_ = append(c.Ticks, api.Tick{})
		_ = append(c.Fees, api.Tier{})
		if slices.Contains(c.Ticks[:cap(c.Ticks)], api.Tick{From: 77, Size: 78}) || slices.Contains(c.Fees[:cap(c.Fees)], api.Tier{From: 79, Maker: 80, Taker: 81}) {
			t.Error("the spare room is handed out")
		}
		if rules.Check(r) != nil || !rules.Same(r, want) || !slices.Equal(rules.Bytes(r), rules.Bytes(want)) {
			t.Error("the spare room counts")
		}
		rules.Put(&codec.Writer{}, r)
		rules.Fits(r, 5, api.Buy, api.Limit, 5, 10)
		if !stands() || !reflect.DeepEqual(r, want) {
			t.Error("what was handed in is changed")
		}
	}
}

// bytesOf tells a rule set's bytes by another library.
func bytesOf(r api.Rules) []byte {
	var b []byte
	number := func(l ...int64) {
		for _, n := range l {
			b = binary.AppendVarint(b, n)
		}
	}
	number(int64(r.Version))
	b = binary.AppendUvarint(b, uint64(len(r.Ticks)))
	for _, t := range r.Ticks {
		number(t.From, t.Size)
	}
	number(r.Lot, r.Band)
	b = binary.AppendUvarint(b, uint64(len(r.Fees)))
	for _, t := range r.Fees {
		number(t.From, t.Maker, t.Taker)
	}
	number(int64(r.Round), int64(r.Priority), int64(r.Self), int64(r.Layout))
	return b
}

func TestP9_4BytesByHand(t *testing.T) {
	r := api.Rules{
		Version: 3, Ticks: []api.Tick{{From: 0, Size: 5}, {From: 100, Size: 10}}, Lot: 2, Band: 1,
		Fees: []api.Tier{{From: 0, Maker: 7, Taker: 8}}, Round: 1, Priority: 2, Self: 4, Layout: 1,
	}
	want := []byte{6, 2, 0, 10, 200, 1, 20, 4, 2, 1, 0, 14, 16, 2, 4, 8, 2}
	if b := rules.Bytes(r); !slices.Equal(b, want) {
		t.Error(b)
	}
	if b := rules.Bytes(api.Rules{}); !slices.Equal(b, make([]byte, 9)) {
		t.Error(b)
	}
}

func TestP9_4BytesAndPut(t *testing.T) {
	odd := api.Rules{Version: math.MinInt, Lot: math.MaxInt64, Band: -1, Round: -2, Priority: math.MaxInt, Self: -3, Layout: 1 << 50}
	long := turned(plain(), func(r *api.Rules) {
		r.Ticks, r.Fees = make([]api.Tick, 300), make([]api.Tier, 200)
		r.Ticks[299].Size, r.Fees[199].Maker = -1, math.MinInt64
	})
	for _, r := range slices.Concat(good(), changes(plain()), []api.Rules{odd, long}) {
		want := bytesOf(r)
		if b := rules.Bytes(r); !slices.Equal(b, want) {
			t.Error(r, b, want)
		}
		var w codec.Writer
		w.Nat(9)
		rules.Put(&w, r)
		rules.Put(&w, r)
		if b := w.Bytes(); !slices.Equal(b, slices.Concat([]byte{9}, want, want)) {
			t.Error("behind what is there", r, b)
		}
		rules.Put(nil, r)
	}
}

func TestP9_4Read(t *testing.T) {
	for _, r := range good() {
		b := append(bytesOf(r), 5, 6)
		d := codec.Open(append([]byte{9}, b...))
		d.Nat(9)
		got, ok := rules.Read(d)
		if !ok || !reflect.DeepEqual(got, r) || d.Bad() || d.Left() != 2 {
			t.Error(r, got, ok, d.Bad(), d.Left())
		}
	}
	var all []byte
	for _, r := range good() {
		all = append(all, bytesOf(r)...)
	}
	d := codec.Open(all)
	for _, r := range good() {
		if got, ok := rules.Read(d); !ok || !reflect.DeepEqual(got, r) {
			t.Error(r, got)
		}
	}
	if d.End() != api.OK {
		t.Error(d.Left(), "left")
	}
}

// none holds that nothing is read, and that the reader is bad then.
func none(t *testing.T, d *codec.Reader, why ...any) {
	t.Helper()
	if r, ok := rules.Read(d); ok || !reflect.DeepEqual(r, api.Rules{}) {
		t.Error(why, r, ok)
	}
	if d != nil && (!d.Bad() || d.Left() != 0 || d.End() != api.ErrForm) {
		t.Error(why, "the reader is good")
	}
}

func TestP9_4ReadWhereNoneIs(t *testing.T) {
	none(t, nil, "nil")
	none(t, &codec.Reader{}, "plain")
	none(t, codec.Open(nil), "of nothing")
	for _, r := range good() {
		b := bytesOf(r)
		for n := range b {
			none(t, codec.Open(b[:n]), "cut at", n)
		}
		bad := codec.Open(b)
		bad.Fail()
		none(t, bad, "bad ahead of it")
		none(t, codec.Open(append([]byte{b[0] | 0x80, 0}, b[1:]...)), "another form")
	}
}

func TestP9_4ReadOfOnesThatMayNotBe(t *testing.T) {
	for _, r := range good() {
		for _, s := range spoils() {
			none(t, codec.Open(append(bytesOf(turned(r, s.change)), 1, 2, 3)), s.text)
		}
	}
	for many := range 14 {
		r := plain()
		r.Ticks, r.Fees = nil, nil
		for i := range int64(many) {
			r.Ticks = append(r.Ticks, api.Tick{From: i, Size: 1})
			r.Fees = append(r.Fees, api.Tier{From: i})
		}
		ticks, tiers := r, r
		ticks.Fees, tiers.Ticks = plain().Fees, plain().Ticks
		for _, r := range []api.Rules{ticks, tiers, r} {
			if many < 1 || many > 8 {
				none(t, codec.Open(bytesOf(r)), many)
			} else if got, ok := rules.Read(codec.Open(bytesOf(r))); !ok || !rules.Same(got, r) {
				t.Error(many, got, ok)
			}
		}
	}
	// A count that is far above what is left must neither be gone over nor be believed.
	none(t, codec.Open([]byte{6, 255, 255, 255, 255, 255, 255, 255, 255, 255, 1}), "many ticks")
}

// chosen tells a number of a few that are worth a try.
func chosen(src *rand.Rand, low, high int64) int64 {
	l := []int64{low, low + 1, high - 1, high, low + src.Int63n(high-low+1), low + src.Int63n(min(high-low, 100)+1)}
	return min(max(l[src.Intn(len(l))], low), high)
}

// random tells a rule set that may be.
func random(src *rand.Rand) api.Rules {
	number := func(low, high int64) int { return int(chosen(src, low, high)) }
	r := api.Rules{
		Version: number(1, api.MaxVersion), Lot: chosen(src, 1, api.MaxQty), Band: chosen(src, 0, api.Million),
		Round: number(1, 3), Priority: number(1, 2), Self: number(1, 4), Layout: number(1, 2),
	}
	from := int64(0)
	for range 1 + src.Intn(8) {
		r.Ticks = append(r.Ticks, api.Tick{From: from, Size: chosen(src, 1, api.MaxPrice)})
		from += 1 + src.Int63n(api.MaxPrice/9)
	}
	from = 0
	for range 1 + src.Intn(8) {
		r.Fees = append(r.Fees, api.Tier{From: from, Maker: chosen(src, 0, api.MaxFee), Taker: chosen(src, 0, api.MaxFee)})
		from += 1 + src.Int63n(api.MaxMoney/9)
	}
	return r
}

func TestP9_5WhatIsPutIsReadAsItWas(t *testing.T) {
	src := rand.New(rand.NewSource(9))
	for range 3000 {
		r := random(src)
		if err := rules.Check(r); err != nil {
			t.Fatal(r, fault.Text(err))
		}
		d := codec.Open(rules.Bytes(r))
		got, ok := rules.Read(d)
		if !ok || !rules.Same(got, r) || d.End() != api.OK {
			t.Fatal(r, got)
		}
	}
}

func TestP9_5WhatIsReadPutAgainIsThoseBytes(t *testing.T) {
	src := rand.New(rand.NewSource(95))
	read := 0
	for range 40000 {
		b := rules.Bytes(random(src))
		for range 1 + src.Intn(2) {
			b[src.Intn(len(b))] = byte(src.Intn(256))
		}
		d := codec.Open(b)
		r, ok := rules.Read(d)
		if !ok {
			continue
		}
		read++
		if rules.Check(r) != nil || !slices.Equal(rules.Bytes(r), b[:len(b)-d.Left()]) {
			t.Fatal(b, r)
		}
	}
	if read < 1000 {
		t.Error("hardly anything was read:", read)
	}
}

func TestP9_5WhatFits(t *testing.T) {
	src := rand.New(rand.NewSource(59))
	fit := 0
	for range 20000 {
		r := random(src)
		r.Lot = chosen(src, 1, 30)
		last, _ := grid.Down(r.Ticks, 1+src.Int63n(api.MaxPrice))
		price, qty := last+r.Ticks[0].Size*(src.Int63n(5)-2), chosen(src, 1, 60)
		if rules.Fits(r, last, api.Buy, api.Limit, price, qty) != nil {
			continue
		}
		fit++
		low, high := limits.Edges(last, r.Band)
		if !grid.On(r.Ticks, price) || price < low || price > high || qty%r.Lot != 0 || qty < 1 {
			t.Fatal(r, last, price, qty)
		}
	}
	if fit < 500 {
		t.Error("hardly anything fits:", fit)
	}
}
