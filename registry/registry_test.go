package registry_test

import (
	"math"
	"math/rand"
	"reflect"
	"slices"
	"testing"

	"jobber/api"
	"jobber/codec"
	"jobber/registry"
	"jobber/rules"
)

// set tells a rule set of a version, with a lot.
func set(version int, lot int64) api.Rules {
	return api.Rules{
		Version: version, Ticks: []api.Tick{{From: 0, Size: 1}, {From: 100, Size: int64(version)}}, Lot: lot, Band: 50000,
		Fees:  []api.Tier{{From: 0, Maker: 10, Taker: 30}, {From: 1000, Maker: 5, Taker: 20}},
		Round: api.Even, Priority: api.ByTime, Self: api.Allow, Layout: api.Grove,
	}
}

// wrong are rule sets that may not be.
func wrong() []api.Rules {
	lists := set(3, 1)
	lists.Ticks = nil
	return []api.Rules{{}, set(0, 1), set(-1, 1), set(33, 1), set(3, 0), set(3, api.MaxQty+1), lists}
}

// made tells a registry of some versions, whose lots are ten times these.
func made(t *testing.T, versions ...int) *registry.Registry {
	t.Helper()
	var g *registry.Registry
	for i, v := range versions {
		if i == 0 {
			g = registry.New(set(v, int64(10*v)))
		} else if e := g.Put(set(v, int64(10*v))); e != api.OK {
			t.Fatal(v, int(e))
		}
	}
	return g
}

// holds tells whether g has just these rule sets, given by rising versions.
func holds(t *testing.T, g *registry.Registry, want ...api.Rules) {
	t.Helper()
	var versions []int
	for _, r := range want {
		versions = append(versions, r.Version)
	}
	if l := g.Versions(); !slices.Equal(l, versions) {
		t.Errorf("versions %v, want %v", l, versions)
	}
	for v := -2; v <= 40; v++ {
		i := slices.Index(versions, v)
		r, ok := g.Get(v)
		if ok != (i >= 0) || i >= 0 && !rules.Same(r, want[i]) || i < 0 && !reflect.DeepEqual(r, api.Rules{}) {
			t.Error("version", v, r, ok)
		}
	}
	if b := g.Bytes(); !slices.Equal(b, bytesOf(want...)) {
		t.Error("bytes", b)
	}
}

// bytesOf tells what Bytes should.
func bytesOf(l ...api.Rules) []byte {
	b := []byte{byte(len(l))}
	for _, r := range l {
		b = append(b, rules.Bytes(r)...)
	}
	return b
}

// upTo tells the versions from 1 on.
func upTo(n int) []int {
	var l []int
	for v := range n {
		l = append(l, v+1)
	}
	return l
}

func TestP10_1TheChaptersExample(t *testing.T) {
	g := registry.New(set(1, 10))
	if g.Put(set(3, 30)) != api.OK || g.Put(set(3, 30)) != api.ErrThere || !slices.Equal(g.Versions(), []int{1, 3}) {
		t.Error(g.Versions())
	}
	holds(t, g, set(1, 10), set(3, 30))
}

func TestP10_1New(t *testing.T) {
	for _, v := range []int{1, 2, 31, 32} {
		holds(t, registry.New(set(v, 7)), set(v, 7))
	}
	for _, r := range wrong() {
		if registry.New(r) != nil {
			t.Error("made of one that may not be", r)
		}
	}
}

func TestP10_1Put(t *testing.T) {
	g := made(t, 5, 2, 32, 1)
	holds(t, g, set(1, 10), set(2, 20), set(5, 50), set(32, 320))
	for _, r := range wrong() {
		if e := g.Put(r); e != api.ErrRules {
			t.Error(r, int(e))
		}
	}
	for _, v := range []int{1, 2, 5, 32} {
		if e := g.Put(set(v, 7)); e != api.ErrThere {
			t.Error(v, int(e))
		}
	}
	bad := set(5, 0) // there is one of its version, but it may not be either
	if e := g.Put(bad); e != api.ErrRules {
		t.Error(int(e))
	}
	holds(t, g, set(1, 10), set(2, 20), set(5, 50), set(32, 320))
}

func TestP10_1PutWhenFull(t *testing.T) {
	g := made(t, upTo(15)...)
	if e := g.Put(set(20, 200)); e != api.OK {
		t.Fatal("the last of 16:", int(e))
	}
	want := g.Bytes()
	for v, e := range map[int]api.Errno{0: api.ErrRules, 33: api.ErrRules, 1: api.ErrThere, 20: api.ErrThere, 16: api.ErrFull, 32: api.ErrFull} {
		if got := g.Put(set(v, 5)); got != e {
			t.Error(v, int(got), int(e))
		}
	}
	if !slices.Equal(g.Bytes(), want) {
		t.Error("something was put")
	}
	if g.Drop(7) != api.OK || g.Put(set(32, 5)) != api.OK || g.Put(set(7, 5)) != api.ErrFull {
		t.Error("one was dropped: there is room for one")
	}
}

func TestP10_1Drop(t *testing.T) {
	g := made(t, 4, 2, 9)
	for _, v := range []int{0, 1, 3, 10, -4, 33, math.MaxInt, math.MinInt} {
		if e := g.Drop(v); e != api.ErrNone {
			t.Error(v, int(e))
		}
	}
	holds(t, g, set(2, 20), set(4, 40), set(9, 90))
	if e := g.Drop(4); e != api.OK {
		t.Error(int(e))
	}
	holds(t, g, set(2, 20), set(9, 90))
	if e := g.Drop(4); e != api.ErrNone {
		t.Error("twice:", int(e))
	}
	if g.Put(set(4, 7)) != api.OK {
		t.Error("put anew")
	}
	holds(t, g, set(2, 20), set(4, 7), set(9, 90))
	if g.Drop(2) != api.OK || g.Drop(9) != api.OK {
		t.Error("all but one")
	}
	if e := g.Drop(4); e != api.ErrState {
		t.Error("the only one:", int(e))
	}
	if e := g.Drop(2); e != api.ErrNone {
		t.Error("none of it:", int(e))
	}
	holds(t, g, set(4, 7))
}

func TestP10_1VersionsHaveMemoryOfTheirOwn(t *testing.T) {
	g := made(t, 3, 1, 2)
	l := g.Versions()
	l[0], l[1] = 30, 30
	_ = append(l, 5)
	holds(t, g, set(1, 10), set(2, 20), set(3, 30))
}

func TestP10_1Clone(t *testing.T) {
	g := made(t, 3, 1)
	c := g.Clone()
	holds(t, c, set(1, 10), set(3, 30))
	if c.Put(set(2, 20)) != api.OK || c.Drop(3) != api.OK || g.Put(set(4, 40)) != api.OK {
		t.Error("put or dropped")
	}
	holds(t, c, set(1, 10), set(2, 20))
	holds(t, g, set(1, 10), set(3, 30), set(4, 40))
}

func TestP10_1OfNilAndPlain(t *testing.T) {
	for _, g := range []*registry.Registry{nil, {}} {
		r, ok := g.Get(1)
		if ok || !reflect.DeepEqual(r, api.Rules{}) {
			t.Error(r, ok)
		}
		for _, r := range append(wrong(), set(1, 1)) {
			if e := g.Put(r); e != api.ErrNil {
				t.Error(int(e))
			}
		}
		for _, v := range []int{0, 1, 99} {
			if e := g.Drop(v); e != api.ErrNil {
				t.Error(int(e))
			}
		}
		if len(g.Versions()) != 0 || g.Clone() != nil || len(g.Bytes()) != 0 {
			t.Error("there is something")
		}
	}
}

func TestP10_2Bytes(t *testing.T) {
	for _, l := range [][]int{{1}, {32}, {2, 1}, {7, 32, 4, 1}, upTo(16)} {
		var want []api.Rules
		for _, v := range slices.Sorted(slices.Values(l)) {
			want = append(want, set(v, int64(10*v)))
		}
		g := made(t, l...)
		if b := g.Bytes(); !slices.Equal(b, bytesOf(want...)) {
			t.Error(l, b)
		}
		b := g.Bytes()
		clear(b)
		holds(t, g, want...)
	}
}

func TestP10_2Read(t *testing.T) {
	for _, l := range [][]int{{1}, {32}, {2, 1}, {7, 32, 4, 1}, upTo(16)} {
		g := made(t, l...)
		d := codec.Open(slices.Concat([]byte{5}, g.Bytes(), g.Bytes(), []byte{6}))
		d.Nat(5)
		one, two := registry.Read(d), registry.Read(d)
		if d.Bad() || d.Left() != 1 || !slices.Equal(one.Bytes(), g.Bytes()) || !slices.Equal(two.Bytes(), g.Bytes()) {
			t.Error(l, d.Left())
		}
		for _, v := range g.Versions() {
			want, _ := g.Get(v)
			if r, ok := one.Get(v); !ok || !reflect.DeepEqual(r, want) {
				t.Error(v, r)
			}
		}
		if two.Put(set(20, 1)); len(one.Versions()) != len(l) {
			t.Error("two that were read share their memory")
		}
	}
}

// none holds that nothing is read, and that the reader is bad then.
func none(t *testing.T, d *codec.Reader, why ...any) {
	t.Helper()
	if registry.Read(d) != nil {
		t.Error(why, "something is read")
	}
	if d != nil && (!d.Bad() || d.Left() != 0 || d.End() != api.ErrForm) {
		t.Error(why, "the reader is good")
	}
}

func TestP10_2ReadWhereNoneIs(t *testing.T) {
	none(t, nil, "nil")
	none(t, &codec.Reader{}, "plain")
	none(t, codec.Open(nil), "of nothing")
	none(t, codec.Open([]byte{0}), "empty")
	none(t, codec.Open([]byte{0, 1, 2}), "empty, with something behind")
	b := made(t, 1, 2, 30).Bytes()
	for n := range b {
		none(t, codec.Open(b[:n]), "cut at", n)
	}
	bad := codec.Open(b)
	bad.Fail()
	none(t, bad, "bad ahead of it")
	many := bytesOf(func() (l []api.Rules) {
		for _, v := range upTo(17) {
			l = append(l, set(v, 1))
		}
		return l
	}()...)
	none(t, codec.Open(many), "17 of them")
	none(t, codec.Open([]byte{255, 255, 255, 255, 255, 255, 255, 255, 255, 1}), "as many as there are numbers")
	more := made(t, 1, 2).Bytes()
	more[0] = 3
	none(t, codec.Open(more), "fewer than are told")
}

func TestP10_2ReadOfOnesThatMayNotBe(t *testing.T) {
	for _, l := range [][]int{{2, 1}, {1, 1}, {1, 2, 2}, {1, 3, 2}, {5, 6, 1}, {32, 32}, {3, 2, 4}} {
		var sets []api.Rules
		for _, v := range l {
			sets = append(sets, set(v, 1))
		}
		none(t, codec.Open(append(bytesOf(sets...), 9)), l)
	}
	for _, r := range wrong() {
		none(t, codec.Open(append(bytesOf(r), 9)), r)
		none(t, codec.Open(append(bytesOf(set(1, 1), r), 9)), r)
		none(t, codec.Open(append(bytesOf(r, set(32, 1)), 9)), r)
	}
}

// scribble writes over a rule set's lists, spare room and all.
func scribble(r api.Rules) {
	for i := range r.Ticks[:cap(r.Ticks)] {
		r.Ticks[:cap(r.Ticks)][i] = api.Tick{From: 99, Size: 99}
	}
	for i := range r.Fees[:cap(r.Fees)] {
		r.Fees[:cap(r.Fees)][i] = api.Tier{From: 99, Maker: 99, Taker: 99}
	}
}

func TestP10_3WhateverIsDoneToWhatWasHandedInOrOut(t *testing.T) {
	first, second := set(1, 10), set(3, 30)
	g := registry.New(first)
	g.Put(second)
	scribble(first)
	scribble(second)
	holds(t, g, set(1, 10), set(3, 30))
	c, d := g.Clone(), registry.Read(codec.Open(g.Bytes()))
	for _, x := range []*registry.Registry{g, c, d} {
		for _, v := range x.Versions() {
			r, _ := x.Get(v)
			scribble(r)
		}
	}
	for _, x := range []*registry.Registry{g, c, d} {
		holds(t, x, set(1, 10), set(3, 30))
	}
}

func TestP10_3WhatIsHandedInStays(t *testing.T) {
	r := set(4, 40)
	r.Ticks, r.Fees = r.Ticks[:1], r.Fees[:1] // the second rows are spare room now
	g := registry.New(r)
	other := r
	other.Version = 5
	g.Put(other)
	got, _ := g.Get(4)
	_ = append(got.Ticks, api.Tick{})
	_ = append(got.Fees, api.Tier{})
	if r.Ticks[:2][1] != set(4, 40).Ticks[1] || r.Fees[:2][1] != set(4, 40).Fees[1] {
		t.Error("spare room is changed")
	}
	holds(t, g, r, other)
}

// A registry does what a plain list of rule sets does, call by call.
func TestP10_3AgainstAList(t *testing.T) {
	src := rand.New(rand.NewSource(10))
	for range 60 {
		v := 1 + src.Intn(32)
		g, l := registry.New(set(v, 1)), []api.Rules{set(v, 1)}
		for lot := range int64(120) {
			v := src.Intn(35) - 1
			at := slices.IndexFunc(l, func(r api.Rules) bool { return r.Version == v })
			if r := set(v, lot+1); src.Intn(3) > 0 {
				want := api.OK
				switch {
				case v < 1 || v > 32:
					want = api.ErrRules
				case at >= 0:
					want = api.ErrThere
				case len(l) == 16:
					want = api.ErrFull
				default:
					l = append(l, r)
				}
				if e := g.Put(r); e != want {
					t.Fatal("Put", v, int(e), int(want))
				}
			} else {
				want := api.OK
				switch {
				case at < 0:
					want = api.ErrNone
				case len(l) == 1:
					want = api.ErrState
				default:
					l = slices.Delete(l, at, at+1)
				}
				if e := g.Drop(v); e != want {
					t.Fatal("Drop", v, int(e), int(want))
				}
			}
			slices.SortFunc(l, func(a, b api.Rules) int { return a.Version - b.Version })
			holds(t, g, l...)
			if lot%10 == 0 {
				old := g
				if g = registry.Read(codec.Open(g.Bytes())); lot%20 == 0 {
					g = old.Clone()
				}
			}
		}
	}
}

func TestP10_3WhatIsReadWrittenAgainIsThoseBytes(t *testing.T) {
	src := rand.New(rand.NewSource(103))
	read := 0
	for range 20000 {
		b := made(t, 2, 3, 9).Bytes()
		b[src.Intn(len(b))] = byte(src.Intn(128))
		d := codec.Open(b)
		g := registry.Read(d)
		if g == nil {
			continue
		}
		read++
		if !slices.Equal(g.Bytes(), b[:len(b)-d.Left()]) {
			t.Fatal(b)
		}
	}
	if read < 500 {
		t.Error("hardly anything was read:", read)
	}
}
