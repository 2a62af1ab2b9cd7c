package version_test

import (
	"encoding/binary"
	"math"
	"math/rand"
	"reflect"
	"slices"
	"testing"

	"jobber/acks"
	"jobber/api"
	"jobber/codec"
	"jobber/registry"
	"jobber/sample"
	"jobber/version"
)

// state is short for a state.
type state = version.State

// states tell states of all kinds: each version from 0 to 3 in each place, with and without an entry from which one is to count.
func states() []state {
	var l []state
	for n := range 4 * 4 * 4 * 4 * 3 {
		l = append(l, state{
			Active: n % 4, Previous: n / 4 % 4, Pending: n / 16 % 4, Shadow: n / 64 % 4, At: []uint64{0, 9, math.MaxUint64}[n/256],
		})
	}
	return l
}

func TestP26TheChaptersExample(t *testing.T) {
	b := version.Board{State: state{Active: 1}, Rules: sets(t, 1), Acks: said(t)}
	for i, c := range []api.Command{propose(set(2)), ack(0, 2), ack(1, 2), rollback(), activate(2, 9)} {
		next, _, e := version.Apply(b, c, uint64(i+1))
		if (e == api.OK) != (i != 3) {
			t.Fatal(i, int(e))
		}
		b = next
	}
	if version.Due(b.State, 8) != 1 || version.Due(b.State, 9) != 2 || version.Due(b.State, 10) != 1 {
		t.Error(b.State)
	}
}

func TestP26_1DueByHand(t *testing.T) {
	for _, c := range []struct {
		s     state
		index uint64
		want  int
	}{
		{state{}, 0, 0},
		{state{Active: 3}, 0, 3}, // none is pending, though At is 0
		{state{Active: 3, Previous: 2, Shadow: 4}, 0, 3},
		{state{Active: 3, At: 7}, 7, 3},
		{state{Active: 3, Pending: 4, At: 7}, 6, 3},
		{state{Active: 3, Pending: 4, At: 7}, 7, 4},
		{state{Active: 3, Pending: 4, At: 7}, 8, 3},
		{state{Active: 3, Pending: 4}, 0, 4},
		{state{Active: 3, Previous: 1, Pending: 4, At: math.MaxUint64, Shadow: 5}, math.MaxUint64, 4},
		{state{Active: math.MinInt, Pending: -1, At: 1}, 1, -1},
		{state{Active: math.MinInt, Pending: math.MaxInt, At: 1 << 32}, 0, math.MinInt},
	} {
		if v := version.Due(c.s, c.index); v != c.want {
			t.Errorf("%+v at %d: %d", c.s, c.index, v)
		}
	}
}

func TestP26_1DueAndStep(t *testing.T) {
	for _, s := range states() {
		for _, index := range []uint64{0, 1, 8, 9, 10, math.MaxUint64 - 1, math.MaxUint64} {
			due := s.Pending != 0 && s.At == index
			want, active := s, s.Active
			if due {
				want, active = state{Active: s.Pending, Previous: s.Active}, s.Pending
			}
			if got, ok := version.Step(s, index); got != want || ok != due {
				t.Errorf("%+v at %d: %+v, %v", s, index, got, ok)
			}
			if v := version.Due(s, index); v != active {
				t.Errorf("%+v at %d: %d", s, index, v)
			}
		}
	}
}

func TestP26_1NeedsByHand(t *testing.T) {
	s := state{Active: 1, Previous: 2, Pending: 3, At: 9, Shadow: 4}
	calm := state{Active: 1, Previous: 2, Shadow: 4}
	for i, c := range []struct {
		s     state
		c     api.Command
		index uint64
		want  uint64
	}{
		{state{Active: 1}, api.Command{Kind: api.CmdNoop}, 5, acks.Set(1)},
		{s, api.Command{Kind: api.CmdNoop}, 8, acks.Set(1, 4)},
		{s, api.Command{Kind: api.CmdNoop}, 9, acks.Set(3)}, // nothing is shadowed there any more
		{s, api.Command{Kind: api.CmdNoop}, 10, acks.Set(1, 4)},
		{s, shade(6), 8, acks.Set(1, 4, 6)},
		{s, shade(6), 9, acks.Set(3, 6)},
		{s, shade(4), 9, acks.Set(3, 4)},
		{s, shade(1), 8, acks.Set(1, 4)}, // whatever comes of it
		{s, shade(33), 8, acks.Set(1, 4)},
		{s, shade(0), 8, acks.Set(1, 4)},
		{s, shade(-1), 9, acks.Set(3)},
		{s, unshade(), 8, acks.Set(1, 4)},
		{s, rollback(), 8, acks.Set(1, 4)},  // it takes the pending one back
		{s, rollback(), 9, acks.Set(3, 1)},  // 3 counts there; behind it 1 does
		{s, rollback(), 10, acks.Set(1, 4)}, // as at 8
		{calm, rollback(), 8, acks.Set(1, 2, 4)},
		{state{Active: 5}, rollback(), 8, acks.Set(5)}, // it is refused: 5 counts behind it, too
		{state{Active: 5, Shadow: 6}, rollback(), 8, acks.Set(5, 6)},
		{calm, activate(7, 20), 8, acks.Set(1, 4)}, // it is not done yet
		{calm, ack(0, 7), 8, acks.Set(1, 4)},
		{calm, propose(set(7)), 8, acks.Set(1, 4)},
		{calm, api.Command{Kind: api.CmdDeposit, Version: 7, Replica: 6, At: 8}, 8, acks.Set(1, 4)},
		{calm, api.Command{Kind: 77, Version: 7}, 8, acks.Set(1, 4)},
		{state{Active: 32, Shadow: 31}, shade(30), 0, 1<<31 | 1<<30 | 1<<29},
		{state{}, api.Command{}, 0, 0},
		{state{Active: 33, Previous: -1, Shadow: math.MinInt}, rollback(), 4, 0},
	} {
		if n := version.Needs(c.s, c.c, c.index); n != c.want {
			t.Errorf("%d: %b, want %b", i, n, c.want)
		}
	}
}

// byKinds tells a command of each kind, and of two that are none, of a version.
func byKinds(v int) []api.Command {
	var l []api.Command
	for kind := range 17 {
		l = append(l, api.Command{Kind: kind, Version: v, At: 20, Rules: set(3)})
	}
	return l
}

func TestP26_1NeedsByItsWords(t *testing.T) {
	for _, s := range states() {
		for _, index := range []uint64{0, 8, 9} {
			behind, due := version.Step(s, index)
			for _, c := range byKinds(5) {
				want := acks.Bit(version.Due(s, index))
				if !due {
					want |= acks.Bit(s.Shadow)
				}
				switch c.Kind {
				case api.CmdShade:
					want |= acks.Bit(5)
				case api.CmdRollback:
					m := model{state: behind}
					m.do(c, index)
					want |= acks.Bit(m.state.Active)
				}
				if n := version.Needs(s, c, index); n != want {
					t.Errorf("%+v %d at %d: %b, want %b", s, c.Kind, index, n, want)
				}
			}
		}
	}
}

// does holds what comes of a command that is done, or refused.
func does(t *testing.T, b version.Board, c api.Command, index uint64, want version.Board, told api.Event, code api.Errno) {
	t.Helper()
	next, ev, e := version.Apply(b, c, index)
	if next != want || ev != told || e != code {
		t.Errorf("%+v at %d of %+v:\n%+v %+v %d, want\n%+v %+v %d", c, index, b.State, next, ev, int(e), want, told, int(code))
	}
}

// turns holds that a command turns a state, and what is told of it.
func turns(t *testing.T, s state, c api.Command, index uint64, want state, told api.Event) {
	t.Helper()
	b := board(t, s)
	next := b
	next.State = want
	does(t, b, c, index, next, told, api.OK)
	if !slices.Equal(b.Rules.Versions(), []int{1, 2, 3, 4, 5}) {
		t.Error("the registry is turned")
	}
}

// refuses holds that a command is refused, and turns nothing.
func refuses(t *testing.T, b version.Board, c api.Command, index uint64, code api.Errno) {
	t.Helper()
	was := b.Rules.Bytes()
	does(t, b, c, index, b, api.Event{}, code)
	if !slices.Equal(b.Rules.Bytes(), was) {
		t.Error("the registry is turned")
	}
}

func TestP26_2Propose(t *testing.T) {
	b := board(t, state{Active: 1})
	does(t, b, propose(set(9)), 3, b, api.Event{Kind: api.EvPropose, Version: 9}, api.OK)
	if r, ok := b.Rules.Get(9); !ok || !reflect.DeepEqual(r, set(9)) {
		t.Error(r, ok)
	}
	c := propose(set(8)) // its own version is not the rule set's
	c.Version, c.Replica, c.At, c.Account = 3, 4, 5, 6
	does(t, b, c, 3, b, api.Event{Kind: api.EvPropose, Version: 8}, api.OK)
	for _, spoil := range sample.Spoils() {
		r := set(7)
		spoil(&r)
		refuses(t, b, propose(r), 3, api.ErrRules)
	}
	refuses(t, b, propose(api.Rules{}), 3, api.ErrRules)
	for _, v := range []int{1, 5, 8, 9} {
		refuses(t, b, propose(set(v)), 3, api.ErrThere)
	}
	full := version.Board{State: state{Active: 1}, Rules: sets(t, 1, 2, 3, 4, 5, 6, 7, 8, 9, 10, 11, 12, 13, 14, 15, 16), Acks: said(t)}
	refuses(t, full, propose(set(17)), 3, api.ErrFull)
	refuses(t, full, propose(set(16)), 3, api.ErrThere)
}

func TestP26_2Ack(t *testing.T) {
	b := board(t, state{Active: 1, Pending: 2, At: 9, Shadow: 3})
	for v := 1; v <= 5; v++ {
		for i := range 2 {
			want := b
			want.Acks, _ = b.Acks.Add(i, v)
			does(t, b, ack(i, v), 3, want, api.Event{Kind: api.EvAck, Account: i, Version: v}, api.OK)
		}
	}
	for _, v := range []int{0, -1, 6, 32, 33, math.MaxInt, math.MinInt} {
		for _, i := range []int{0, 1, 2, -1} {
			refuses(t, b, ack(i, v), 3, api.ErrNone)
		}
	}
	for _, i := range []int{-1, 2, 3, 7, math.MaxInt, math.MinInt} {
		refuses(t, b, ack(i, 2), 3, api.ErrArg)
	}
	b.Acks = acks.Table{}
	refuses(t, b, ack(0, 2), 3, api.ErrArg)
}

func TestP26_2Shade(t *testing.T) {
	for _, s := range []state{{Active: 1}, {Active: 1, Previous: 4, Pending: 3, At: 9}, {Active: 1, Previous: 3}} {
		want := s
		want.Shadow = 3
		turns(t, s, shade(3), 5, want, api.Event{Kind: api.EvShade, Version: 3})
		refuses(t, board(t, s), shade(6), 5, api.ErrNone)
		refuses(t, board(t, s), shade(0), 5, api.ErrNone)
		refuses(t, board(t, s), shade(1), 5, api.ErrVersion) // not supported by all, either
		refuses(t, board(t, s), shade(5), 5, api.ErrAcks)
		b := board(t, want)
		refuses(t, b, shade(6), 5, api.ErrNone)
		for _, v := range []int{1, 2, 3, 5} {
			refuses(t, b, shade(v), 5, api.ErrState)
		}
		b = board(t, s)
		b.Acks = acks.Table{}
		refuses(t, b, shade(3), 5, api.ErrAcks)
	}
}

func TestP26_2Unshade(t *testing.T) {
	for _, s := range []state{{Active: 1, Shadow: 3}, {Active: 1, Previous: 4, Pending: 3, At: 9, Shadow: 2}} {
		want := s
		want.Shadow = 0
		turns(t, s, unshade(), 5, want, api.Event{Kind: api.EvUnshade, Version: s.Shadow})
		c := unshade()
		c.Version = 5
		turns(t, s, c, 5, want, api.Event{Kind: api.EvUnshade, Version: s.Shadow})
		refuses(t, board(t, want), unshade(), 5, api.ErrState)
	}
}

func TestP26_2Activate(t *testing.T) {
	for _, s := range []state{{Active: 1}, {Active: 1, Previous: 4, Shadow: 3}, {Active: 1, Previous: 3, Shadow: 2}} {
		for _, index := range []uint64{0, 1, 5, 1 << 40, math.MaxUint64 - 1<<20} {
			for _, ahead := range []uint64{1, 2, 1<<20 - 1, 1 << 20} {
				want := s
				want.Pending, want.At = 3, index+ahead
				turns(t, s, activate(3, index+ahead), index, want, api.Event{Kind: api.EvSchedule, Version: 3, Index: index + ahead})
			}
			for _, at := range []uint64{0, index / 2, index} {
				refuses(t, board(t, s), activate(3, at), index, api.ErrOld)
				refuses(t, board(t, s), activate(5, at), index, api.ErrOld) // ahead of ErrAcks
				refuses(t, board(t, s), activate(1, at), index, api.ErrVersion)
				refuses(t, board(t, s), activate(6, at), index, api.ErrNone)
			}
		}
		for _, at := range []uint64{1<<20 + 6, 1<<20 + 7, 1 << 32, 1 << 62, 1 << 63, math.MaxUint64} {
			refuses(t, board(t, s), activate(3, at), 5, api.ErrBig)
			refuses(t, board(t, s), activate(5, at), 5, api.ErrBig)
			refuses(t, board(t, s), activate(1, at), 5, api.ErrVersion)
			refuses(t, board(t, s), activate(0, at), 5, api.ErrNone)
		}
		last := s
		last.Pending, last.At = 3, math.MaxUint64
		turns(t, s, activate(3, math.MaxUint64), math.MaxUint64-5, last, api.Event{Kind: api.EvSchedule, Version: 3, Index: math.MaxUint64})
		refuses(t, board(t, s), activate(5, 9), 5, api.ErrAcks)
		refuses(t, board(t, s), activate(3, 4), math.MaxUint64, api.ErrOld)
		refuses(t, board(t, s), activate(3, math.MaxUint64), math.MaxUint64, api.ErrOld)
	}
}

func TestP26_2ActivateWhereOneIsPending(t *testing.T) {
	b := board(t, state{Active: 1, Pending: 2, At: 9})
	for _, v := range []int{1, 2, 3, 5} {
		for _, at := range []uint64{0, 5, 9, 12, math.MaxUint64} {
			refuses(t, b, activate(v, at), 5, api.ErrState)
		}
	}
	refuses(t, b, activate(6, 12), 5, api.ErrNone)
}

func TestP26_2Rollback(t *testing.T) {
	for i, c := range []struct{ s, want state }{
		{state{Active: 1, Pending: 2, At: 9}, state{Active: 1}},
		{state{Active: 1, Previous: 4, Pending: 2, At: 9, Shadow: 3}, state{Active: 1, Previous: 4, Shadow: 3}},
		{state{Active: 3, Pending: 2, At: 5, Shadow: 2}, state{Active: 3, Shadow: 2}},
		{state{Active: 3, Previous: 4}, state{Active: 4}},
		{state{Active: 3, Previous: 1, Shadow: 2}, state{Active: 1}},
		{state{Active: 3, Previous: 1, Shadow: 1}, state{Active: 1}},
	} {
		turns(t, c.s, rollback(), 5, c.want, api.Event{Kind: api.EvRollback, Version: c.want.Active})
		other := rollback()
		other.Version, other.At, other.Replica = 5, 20, 1
		turns(t, c.s, other, uint64(i), c.want, api.Event{Kind: api.EvRollback, Version: c.want.Active})
	}
	for _, s := range []state{{Active: 1}, {Active: 1, Shadow: 3}} {
		refuses(t, board(t, s), rollback(), 5, api.ErrState)
	}
}

func TestP26_2OtherKinds(t *testing.T) {
	b := board(t, state{Active: 1, Previous: 4, Pending: 2, At: 9, Shadow: 3})
	for _, kind := range []int{0, 1, 2, 3, 4, 5, 6, 7, 8, 15, 16, 100, -1, -9, 1<<32 + 9, math.MaxInt, math.MinInt} {
		refuses(t, b, api.Command{Kind: kind}, 5, api.ErrArg)
		refuses(t, b, api.Command{Kind: kind, Version: 2, Replica: 1, At: 12, Rules: set(9)}, 5, api.ErrArg)
	}
}

func TestP26_2OfNoRegistry(t *testing.T) {
	for _, g := range []*registry.Registry{nil, {}} {
		for _, s := range []state{{}, {Active: 1, Previous: 2, Shadow: 3}, {Active: 1, Pending: 2, At: 9}} {
			for _, c := range append(byKinds(2), propose(set(2)), api.Command{}) {
				b := version.Board{State: s, Rules: g, Acks: said(t, 2, 3)}
				if next, ev, e := version.Apply(b, c, 5); next != b || ev != (api.Event{}) || e != api.ErrNil {
					t.Error(c, next, ev, int(e))
				}
			}
		}
	}
}

// What Apply tells of each state, command and index is what the chapter's words tell.
func TestP26_2ByItsWords(t *testing.T) {
	done := map[api.Errno]int{}
	for _, s := range states() {
		for _, index := range []uint64{0, 8, 30} {
			for _, v := range []int{0, 1, 2, 5, 6} {
				for _, c := range byKinds(v) {
					m := model{state: s, versions: []int{1, 2, 3, 4, 5}, replicas: 2, acks: [][2]int{{1, 5}}}
					for v := 2; v <= 4; v++ {
						m.acks = append(m.acks, [2]int{0, v}, [2]int{1, v})
					}
					b := board(t, s)
					ev, e := m.do(c, index)
					next, told, code := version.Apply(b, c, index)
					if told != ev || code != e || e != api.OK && next != b || next.Rules != b.Rules {
						t.Fatalf("%+v %+v at %d: %+v %d, want %+v %d", s, c, index, told, int(code), ev, int(e))
					}
					m.is(t, next, s, c.Kind)
					done[e]++
				}
			}
		}
	}
	for _, e := range []api.Errno{api.OK, api.ErrArg, api.ErrNone, api.ErrState, api.ErrVersion, api.ErrOld, api.ErrAcks, api.ErrThere} {
		if done[e] < 100 {
			t.Error("hardly ever", int(e), done[e])
		}
	}
}

func TestP26_3SoundByHand(t *testing.T) {
	full := state{Active: 1, Previous: 2, Pending: 3, At: 9, Shadow: 4}
	for i, c := range []struct {
		change func(b *version.Board)
		want   bool
	}{
		{func(b *version.Board) {}, true},
		{func(b *version.Board) { b.State = state{Active: 5} }, true},
		{func(b *version.Board) { b.Acks = acks.Table{} }, true}, // of what was said nothing is asked
		{func(b *version.Board) { b.Rules = sets(t, 4, 3, 2, 1) }, true},
		{func(b *version.Board) { b.State.Active = 0 }, false},
		{func(b *version.Board) { b.State.Active = 6 }, false},
		{func(b *version.Board) { b.State.Active = -1 }, false},
		{func(b *version.Board) { b.State.Previous = 0 }, true},
		{func(b *version.Board) { b.State.Previous = 1 }, true},
		{func(b *version.Board) { b.State.Previous = 3 }, true},
		{func(b *version.Board) { b.State.Previous = 6 }, false},
		{func(b *version.Board) { b.State.Previous = math.MinInt }, false},
		{func(b *version.Board) { b.State.Pending, b.State.At = 0, 0 }, true},
		{func(b *version.Board) { b.State.Pending = 0 }, false},
		{func(b *version.Board) { b.State.At = 0 }, false},
		{func(b *version.Board) { b.State.At = math.MaxUint64 }, true},
		{func(b *version.Board) { b.State.Pending = 1 }, false},
		{func(b *version.Board) { b.State.Pending = 2 }, true},
		{func(b *version.Board) { b.State.Pending = 4 }, true},
		{func(b *version.Board) { b.State.Pending = 6 }, false},
		{func(b *version.Board) { b.State.Pending = -3 }, false},
		{func(b *version.Board) { b.State.Shadow = 0 }, true},
		{func(b *version.Board) { b.State.Shadow = 1 }, false},
		{func(b *version.Board) { b.State.Shadow = 2 }, true},
		{func(b *version.Board) { b.State.Shadow = 3 }, true},
		{func(b *version.Board) { b.State.Shadow = 6 }, false},
		{func(b *version.Board) { b.State.Shadow = math.MaxInt }, false},
		{func(b *version.Board) { b.Rules = nil }, false},
		{func(b *version.Board) { b.Rules = &registry.Registry{} }, false},
		{func(b *version.Board) { *b = version.Board{} }, false},
		{func(b *version.Board) { b.State, b.Rules = state{}, nil }, false},
	} {
		b := board(t, full)
		c.change(&b)
		if version.Sound(b) != c.want {
			t.Error(i, b.State, !c.want)
		}
	}
	for i := range 4 { // each is asked for
		l := slices.Delete([]int{1, 2, 3, 4}, i, i+1)
		if version.Sound(version.Board{State: full, Rules: sets(t, l...)}) {
			t.Error("there are only", l)
		}
	}
}

func TestP26_3SoundByItsWords(t *testing.T) {
	many := 0
	for _, s := range states() {
		for _, l := range [][]int{{1, 2, 3}, {1, 2}, {3, 1}, {2}} {
			there := func(v int) bool { return slices.Contains(l, v) }
			want := there(s.Active)
			for _, v := range []int{s.Previous, s.Pending, s.Shadow} {
				want = want && (v == 0 || there(v))
			}
			if s.Pending == s.Active || s.Shadow == s.Active || (s.At == 0) != (s.Pending == 0) {
				want = false
			}
			b := version.Board{State: s, Rules: sets(t, l...), Acks: said(t)}
			if version.Sound(b) != want {
				t.Error(s, l, !want)
			}
			if want {
				many++
			}
		}
	}
	if many < 50 {
		t.Error("hardly any is sound", many)
	}
}

// written tells a state's bytes.
func written(s state) []byte {
	var w codec.Writer
	version.Put(&w, s)
	return w.Bytes()
}

// wide tells states of great numbers, and of small ones.
func wide(src *rand.Rand) []state {
	l := append(states(),
		state{Active: math.MinInt, Previous: math.MaxInt, Pending: -1, At: math.MaxUint64, Shadow: math.MinInt},
		state{Active: 64, Previous: -65, Pending: 128, At: 1 << 63, Shadow: math.MaxInt})
	for range 500 {
		number := func() int { return int(src.Uint64()) >> src.Intn(64) }
		l = append(l, state{number(), number(), number(), src.Uint64() >> src.Intn(64), number()})
	}
	return l
}

func TestP26_3Put(t *testing.T) {
	if b := written(state{Active: 1, Previous: 2, Pending: -3, At: 300, Shadow: 64}); string(b) != "\x02\x04\x05\xac\x02\x80\x01" {
		t.Errorf("%x", b)
	}
	for _, s := range wide(rand.New(rand.NewSource(26))) {
		var w codec.Writer
		w.Nat(7)
		version.Put(&w, s)
		version.Put(&w, s)
		if !slices.Equal(w.Bytes(), slices.Concat([]byte{7}, bytesOf(s), bytesOf(s))) {
			t.Errorf("%+v: %x", s, w.Bytes())
		}
		version.Put(nil, s)
	}
}

// none holds that no state is read, and that the reader is bad then.
func none(t *testing.T, d *codec.Reader, why ...any) {
	t.Helper()
	if s := version.Read(d); s != (state{}) {
		t.Error(why, "it was read", s)
	}
	if d != nil && (!d.Bad() || d.Left() != 0 || d.End() != api.ErrForm) {
		t.Error(why, "the reader is good")
	}
}

func TestP26_3Read(t *testing.T) {
	for _, s := range wide(rand.New(rand.NewSource(263))) {
		b := bytesOf(s)
		d := codec.Open(slices.Concat([]byte{7}, b, b, []byte{6, 6}))
		d.Nat(7)
		if one, two := version.Read(d), version.Read(d); one != s || two != s || d.Bad() || d.Left() != 2 {
			t.Errorf("%+v: %+v %+v", s, one, two)
		}
		for n := range b {
			none(t, codec.Open(b[:n]), "torn", s, n)
		}
	}
}

func TestP26_3ReadWhereNoneIs(t *testing.T) {
	none(t, nil, "nil")
	none(t, &codec.Reader{}, "plain")
	none(t, codec.Open(nil), "of nothing")
	bad := codec.Open(written(state{Active: 1}))
	bad.Fail()
	none(t, bad, "bad ahead of it")
	for i := range 5 { // each number in a form that is not its one, and as one that is above 2^64
		for _, part := range [][]byte{{0x82, 0}, append(slices.Repeat([]byte{0xff}, 9), 2), slices.Repeat([]byte{0x80}, 20)} {
			l := [][]byte{{2}, {4}, {6}, {9}, {8}}
			l[i] = part
			none(t, codec.Open(append(slices.Concat(l...), 1, 1, 1, 1, 1)), i, part)
		}
	}
	b := append(binary.AppendUvarint([]byte{0, 0, 0}, math.MaxUint64), 0)
	if s := version.Read(codec.Open(b)); s != (state{At: math.MaxUint64}) {
		t.Error(s)
	}
}
