package shadow_test

import (
	"encoding/binary"
	"math"
	"math/rand"
	"reflect"
	"slices"
	"testing"

	"jobber/api"
	"jobber/codec"
	"jobber/market"
	"jobber/requant"
	"jobber/sample"
	"jobber/shadow"
	"jobber/vault"
)

// What the tests begin with.
var (
	by            = sample.By
	buy, sell, at = sample.Buy, sample.Sell, sample.At
)

// candidate tells rules of the version 7, of lots, and of steps.
func candidate(size, lot int64) api.Rules {
	return by(func(r *api.Rules) { r.Version, r.Ticks[0].Size, r.Lot = 7, size, lot })
}

// restored tells a market of a state that is sound.
func restored(t *testing.T, s market.State) *market.Market {
	t.Helper()
	m, e := market.Restore(s)
	if e != api.OK {
		t.Fatal("no market", s)
	}
	return m
}

// started tells a runner that may be started.
func started(t *testing.T, m *market.Market, r api.Rules) *shadow.Runner {
	t.Helper()
	s, e := shadow.Start(m, r)
	if e != api.OK || s == nil {
		t.Fatal("no runner", int(e))
	}
	return s
}

// turned tells a market that is turned to rules.
func turned(t *testing.T, m *market.Market, r api.Rules) *market.Market {
	t.Helper()
	n, _, e := requant.Turn(m, r)
	if e != api.OK {
		t.Fatal("not turned", int(e))
	}
	return n
}

// counts holds how many were fed, and how many diverged.
func counts(t *testing.T, s *shadow.Runner, fed, diverged uint64) {
	t.Helper()
	if f, d := s.Count(); f != fed || d != diverged {
		t.Errorf("%d fed, %d diverged, want %d and %d", f, d, fed, diverged)
	}
}

// has holds the state of a runner's market.
func has(t *testing.T, s *shadow.Runner, want market.State) {
	t.Helper()
	if is := s.State(); !market.Same(is, want) {
		t.Errorf("%+v\nnot\n%+v", is, want)
	}
	if s.Version() != want.Rules.Version {
		t.Error("the version", s.Version())
	}
}

// written tells a runner's bytes.
func written(s *shadow.Runner) []byte {
	var w codec.Writer
	s.Put(&w)
	return w.Bytes()
}

// byWords tells by the chapter's words the bytes of a runner of such counts, and of a market of that state.
func byWords(fed, diverged uint64, s market.State) []byte {
	var w codec.Writer
	vault.Put(&w, s)
	b := binary.AppendUvarint(nil, fed)
	b = binary.AppendUvarint(b, diverged)
	return append(b, w.Bytes()...)
}

// read tells the runner that just these bytes are.
func read(t *testing.T, b []byte) *shadow.Runner {
	t.Helper()
	d := codec.Open(b)
	s, ok := shadow.Read(d)
	if !ok || s == nil || d.Bad() || d.End() != api.OK {
		t.Fatalf("not read: %x", b)
	}
	return s
}

// none holds that no runner is read, and that the reader is bad then.
func none(t *testing.T, b []byte, why ...any) {
	t.Helper()
	d := codec.Open(b)
	if s, ok := shadow.Read(d); s != nil || ok || !d.Bad() || d.Left() != 0 || d.End() != api.ErrForm {
		t.Error(why, "it was read")
	}
}

// pair is a market that counts, and a runner beside it; and, by the chapter's words, the market that the runner should have.
type pair struct {
	counts        *market.Market
	runner        *shadow.Runner
	beside        *market.Market
	fed, diverged uint64
}

// begun tells a pair of a market, and of rules that are tried beside.
func begun(t *testing.T, m *market.Market, r api.Rules) *pair {
	t.Helper()
	return &pair{counts: m, runner: started(t, m, r), beside: turned(t, m, r)}
}

// does has both do a command, and holds what the runner tells of it.
func (p *pair) does(t *testing.T, c api.Command) bool {
	t.Helper()
	told := p.counts.Apply(c)
	was, events := p.counts.State(), slices.Clone(told)
	other := !slices.Equal(told, p.beside.Apply(c))
	if p.fed++; other {
		p.diverged++
	}
	if got := p.runner.Feed(c, told); got != other {
		t.Fatalf("%+v: %v", c, got)
	}
	counts(t, p.runner, p.fed, p.diverged)
	if !reflect.DeepEqual(p.counts.State(), was) || !slices.Equal(told, events) {
		t.Fatalf("%+v: what counts has turned", c)
	}
	if !market.Same(p.runner.State(), p.beside.State()) {
		t.Fatalf("%+v: the runner has another market", c)
	}
	return other
}

// chosen tells a market that chance chooses, of rules that are chosen too.
func chosen(t *testing.T, src *rand.Rand) *market.Market {
	t.Helper()
	return restored(t, sample.SomeState(src.Intn, sample.SomeRules(src.Intn)))
}

// wide are numbers of all sizes.
func wide() []uint64 {
	return []uint64{0, 1, 2, 63, 127, 128, 300, 1 << 32, 1<<63 - 1, 1 << 63, math.MaxUint64 - 1, math.MaxUint64}
}
