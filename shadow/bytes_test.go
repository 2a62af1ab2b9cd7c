package shadow_test

import (
	"math"
	"math/rand"
	"slices"
	"testing"

	"jobber/api"
	"jobber/codec"
	"jobber/market"
	"jobber/sample"
	"jobber/shadow"
	"jobber/vault"
)

func TestP27_2PutByHand(t *testing.T) {
	m, _ := market.New(sample.Rules())
	s := started(t, m, sample.Rules())
	if b := written(s); !slices.Equal(b, append([]byte{0, 0}, vault.Bytes(m)...)) {
		t.Errorf("%x", b)
	}
	for i := range 300 {
		var l []api.Event // nothing was told: it diverges
		if i >= 200 {
			l = []api.Event{{Kind: api.EvMove, Account: 1, Side: api.Cash, Qty: 2}}
		}
		s.Feed(sample.Deposit(1, api.Cash, 2), l)
		m.Apply(sample.Deposit(1, api.Cash, 2))
	}
	if b := written(s); !slices.Equal(b, append([]byte{0xac, 2, 0xc8, 1}, vault.Bytes(m)...)) {
		t.Errorf("%x", b)
	}
}

func TestP27_2PutByItsWords(t *testing.T) {
	src := rand.New(rand.NewSource(275))
	for range 100 {
		p := begun(t, chosen(t, src), sample.SomeRules(src.Intn))
		for range src.Intn(40) {
			p.does(t, sample.SomeCommand(src.Intn, 1))
		}
		want := byWords(p.fed, p.diverged, p.beside.State())
		var w codec.Writer
		w.Nat(9)
		p.runner.Put(&w)
		p.runner.Put(&w) // behind what is there
		if !slices.Equal(w.Bytes(), slices.Concat([]byte{9}, want, want)) {
			t.Fatalf("%x\nnot\n%x", w.Bytes(), want)
		}
		p.runner.Put(nil)
		has(t, p.runner, p.beside.State())
		counts(t, p.runner, p.fed, p.diverged)
	}
}

func TestP27_2Read(t *testing.T) {
	var all []byte
	states := sample.States()
	for i, n := range wide() {
		all = append(all, byWords(n, n/2, states[i%len(states)])...)
	}
	d := codec.Open(slices.Concat([]byte{9}, all, []byte{5}))
	d.Nat(9)
	for i, n := range wide() {
		s, ok := shadow.Read(d)
		if !ok || d.Bad() {
			t.Fatal(i)
		}
		has(t, s, states[i%len(states)])
		counts(t, s, n, n/2)
	}
	if d.Left() != 1 {
		t.Error(d.Left(), "left")
	}
}

func TestP27_2ReadOfCounts(t *testing.T) {
	is := sample.States()[1]
	for _, fed := range wide() {
		for _, diverged := range append(wide(), fed+1) {
			b := byWords(fed, diverged, is)
			if diverged > fed { // more than were fed
				none(t, b, fed, diverged)
				none(t, append(b, b...), fed, diverged, "with more behind it")
				continue
			}
			s := read(t, b)
			has(t, s, is)
			counts(t, s, fed, diverged)
			if !slices.Equal(written(s), b) {
				t.Errorf("%x\nnot\n%x", written(s), b)
			}
		}
	}
}

func TestP27_2ReadWhereNoneIs(t *testing.T) {
	if s, ok := shadow.Read(nil); s != nil || ok {
		t.Error("nil")
	}
	plain := new(codec.Reader)
	if s, ok := shadow.Read(plain); s != nil || ok || !plain.Bad() {
		t.Error("a reader of nothing")
	}
	d := codec.Open(byWords(2, 1, sample.States()[0]))
	d.Fail()
	if s, ok := shadow.Read(d); s != nil || ok || !d.Bad() {
		t.Error("a bad reader")
	}
	none(t, nil, "no bytes")
	for i, is := range sample.States() {
		b := byWords(300, 200, is)
		for n := range b {
			none(t, b[:n], "torn", i, n)
			none(t, b[:n:n], "torn", i, n)
		}
		rest := b[4:] // behind both counts
		for j, front := range [][]byte{
			{}, {0}, {0x80, 0, 0}, {0, 0x80, 0}, {0x81, 0, 0}, {1, 0x81, 0}, {0, 1}, {5, 6}, {0x80},
			append(slices.Repeat([]byte{0xff}, 9), 2, 0), append([]byte{0}, append(slices.Repeat([]byte{0xff}, 9), 2)...),
		} {
			none(t, slices.Concat(front, rest), "a count that is none", i, j)
		}
	}
	none(t, append([]byte{0, 0}, make([]byte, 200)...), "noughts")
}

func TestP27_2ReadOfWhatIsNotSound(t *testing.T) {
	spoils := []func(s *market.State){
		func(s *market.State) { s.Phase = 3 },
		func(s *market.State) { s.Last = -1 },
		func(s *market.State) { s.Next = s.Orders[0].Seq },
		func(s *market.State) { s.Till.House = -1 },
		func(s *market.State) { s.Till.Purses[2].HeldCash++ },
		func(s *market.State) { s.Orders = s.Orders[1:] },
		func(s *market.State) { s.Orders[0], s.Orders[1] = s.Orders[1], s.Orders[0] },
	}
	for _, spoil := range sample.Spoils() {
		spoils = append(spoils, func(s *market.State) { spoil(&s.Rules) })
	}
	for i, spoil := range spoils {
		is := sample.States()[1]
		spoil(&is)
		none(t, byWords(2, 1, is), i)
		none(t, append(byWords(2, 1, is), byWords(2, 1, sample.States()[1])...), i, "with more behind it")
	}
	none(t, byWords(0, 0, market.State{}), "the zero State")
}

func TestP27_2WhatIsHandedInStays(t *testing.T) {
	is := sample.States()[2]
	b := byWords(3, 2, is)
	was := slices.Clone(b)
	one, two := read(t, b), read(t, b)
	if !slices.Equal(b, was) {
		t.Error("what was handed in is changed")
	}
	clear(b)
	two.Feed(sample.Deposit(0, api.Cash, 5), nil)
	has(t, one, is)
	counts(t, one, 3, 2)
	clear(written(one))
	if !slices.Equal(written(one), was) {
		t.Error("the bytes are kept")
	}
}

func TestP27_2EveryByteCounts(t *testing.T) {
	src := rand.New(rand.NewSource(276))
	opened := 0
	for i, is := range sample.States() {
		b := byWords(300, 200+uint64(i), is)
		for i := range b {
			other := slices.Clone(b)
			other[i] ^= byte(1 + src.Intn(255))
			d := codec.Open(other)
			s, ok := shadow.Read(d)
			if !ok {
				none(t, other, i)
				continue
			}
			opened++
			if fed, diverged := s.Count(); diverged > fed || !market.Sound(s.State()) || !slices.Equal(written(s), other[:len(other)-d.Left()]) {
				t.Fatalf("%x\nis not\n%x", written(s), other)
			}
		}
	}
	if opened < 30 {
		t.Error("hardly ever opened", opened)
	}
}

func TestP27_2WhatIsReadGoesOnAlike(t *testing.T) {
	src := rand.New(rand.NewSource(277))
	for range 60 {
		p := begun(t, chosen(t, src), sample.SomeRules(src.Intn))
		for range 6 {
			b := written(p.runner)
			other := read(t, b)
			has(t, other, p.beside.State())
			counts(t, other, p.fed, p.diverged)
			twin := pair{p.counts.Clone(), other, p.beside.Clone(), p.fed, p.diverged}
			for range 10 {
				c := sample.SomeCommand(src.Intn, 1)
				if p.does(t, c) != twin.does(t, c) {
					t.Fatalf("%+v", c)
				}
			}
			if !slices.Equal(written(p.runner), written(other)) {
				t.Fatal("they went apart")
			}
		}
	}
}

// A count at its greatest has no room for more: never are there more that diverged than were fed, and what is written may be read.
func TestP27_2CountsAtTheirGreatest(t *testing.T) {
	for _, diverged := range []uint64{0, 5, math.MaxUint64 - 2} {
		s := read(t, byWords(math.MaxUint64-2, diverged, sample.States()[0]))
		for i := range uint64(5) {
			fed := uint64(math.MaxUint64 - 2 + min(i, 2))
			counts(t, s, fed, diverged)
			counts(t, read(t, written(s)), fed, diverged)
			if !s.Feed(sample.Halt(), nil) { // it tells something
				t.Error("not diverged")
			}
			diverged += min(1, math.MaxUint64-diverged)
		}
	}
}
