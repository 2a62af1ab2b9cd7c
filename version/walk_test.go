package version_test

import (
	"math/rand"
	"testing"

	"jobber/acks"
	"jobber/api"
	"jobber/codec"
	"jobber/version"
)

// walk is a board that goes from entry to entry, the model beside it, and what was agreed on.
type walk struct {
	board version.Board
	model model
	first int
	index uint64
	turns map[string]int // how often which thing was done
}

// begin tells a walk of so many replicas, of one version.
func begin(t *testing.T, first, replicas int) *walk {
	t.Helper()
	table, e := acks.New(replicas)
	if e != api.OK {
		t.Fatal(int(e))
	}
	s := version.State{Active: first}
	return &walk{
		board: version.Board{State: s, Rules: sets(t, first), Acks: table},
		model: model{state: s, versions: []int{first}, replicas: replicas},
		first: first, turns: map[string]int{},
	}
}

// some tells a command that is chosen, most often one that may be done.
func (w *walk) some(src *rand.Rand) api.Command {
	v := 1 + src.Intn(8)
	switch n := src.Intn(100); {
	case n < 8:
		return propose(set(v))
	case n < 60:
		return ack(src.Intn(w.model.replicas), v)
	case n < 70:
		return shade(v)
	case n < 75:
		return unshade()
	case n < 88:
		return activate(v, w.index+uint64(src.Intn(8)))
	case n < 94:
		return rollback()
	}
	return api.Command{Kind: src.Intn(17), Replica: src.Intn(9) - 1, Version: src.Intn(35) - 1, At: src.Uint64() >> src.Intn(64)}
}

// step goes to the next entry: what is due there comes to count, and nothing else.
func (w *walk) step(t *testing.T) {
	t.Helper()
	w.index++
	was, due := w.board.State, version.Due(w.board.State, w.index)
	next, turned := version.Step(was, w.index)
	if turned != (was.Pending != 0 && was.At == w.index) || next.Active != due || turned == (next == was) {
		t.Fatal(was, next, turned, due)
	}
	if was.Pending != 0 && was.At < w.index {
		t.Fatal("an entry that was agreed on is past", was, w.index)
	}
	if turned {
		w.model.state = version.State{Active: was.Pending, Previous: was.Active}
		w.turns["due"]++
	}
	w.board.State = next
}

// do does a command at the entry to which the walk has come, and holds the model and the promises against what comes of it.
func (w *walk) do(t *testing.T, c api.Command) {
	t.Helper()
	was, needs := w.board.State, version.Needs(w.board.State, c, w.index)
	ev, e := w.model.do(c, w.index)
	next, told, code := version.Apply(w.board, c, w.index)
	if told != ev || code != e || e != api.OK && next != w.board {
		t.Fatalf("%+v: %+v %d, want %+v %d", c, told, int(code), ev, int(e))
	}
	w.model.is(t, next, c)
	w.board = next
	s := next.State
	if s.Active != was.Active {
		w.turns["back"]++
		if c.Kind != api.CmdRollback || s.Active != was.Previous || e != api.OK {
			t.Fatalf("%+v: %+v is %+v", c, was, s)
		}
	}
	if bits := acks.Set(was.Active, was.Shadow, s.Active, s.Shadow); needs&bits != bits {
		t.Fatalf("%+v: needs %b, not %b", c, needs, bits)
	}
	if e == api.OK {
		w.turns["done"]++
	}
}

// holds holds what chapter 26 says that follows.
func (w *walk) holds(t *testing.T) {
	t.Helper()
	s := w.board.State
	if !version.Sound(w.board) {
		t.Fatal("not sound", s)
	}
	for _, v := range []int{s.Active, s.Previous, s.Pending, s.Shadow} {
		if v != 0 && v != w.first && !w.board.Acks.All(v) {
			t.Fatal("not all have said that they support", v, s)
		}
	}
	d := codec.Open(written(s))
	if read := version.Read(d); read != s || d.End() != api.OK {
		t.Fatal("not read as it was", s, read)
	}
}

func TestP26_4WhateverComes(t *testing.T) {
	src := rand.New(rand.NewSource(264))
	turns := map[string]int{}
	for range 60 {
		w := begin(t, 1+src.Intn(3), 1+src.Intn(3))
		for range 400 {
			w.step(t)
			w.holds(t)
			w.do(t, w.some(src))
			w.holds(t)
		}
		for what, n := range w.turns {
			turns[what] += n
		}
	}
	for _, what := range []string{"due", "back", "done"} {
		if turns[what] < 100 {
			t.Error("hardly ever", what, turns[what])
		}
	}
}

func TestP26_4TurnsAtTheAgreedEntry(t *testing.T) {
	b := board(t, version.State{Active: 1, Shadow: 4})
	b, _, e := version.Apply(b, activate(2, 40), 12)
	if e != api.OK {
		t.Fatal(int(e))
	}
	for index := uint64(13); index < 60; index++ {
		s, turned := version.Step(b.State, index)
		if turned != (index == 40) || (s.Active == 2) != (index >= 40) || (s.Shadow == 4) != (index < 40) {
			t.Error(index, s, turned)
		}
		b.State = s
	}
	b, ev, e := version.Apply(b, rollback(), 60)
	if want := (version.State{Active: 1}); b.State != want || ev.Version != 1 || e != api.OK {
		t.Error(b.State, ev, int(e))
	}
	if next, _, e := version.Apply(b, rollback(), 61); next != b || e != api.ErrState {
		t.Error("rolled back twice", next.State, int(e))
	}
}

// A sound board stays sound, whatever it begins with.
func TestP26_4ASoundBoardStaysSo(t *testing.T) {
	many := 0
	for _, s := range states() {
		b := board(t, s)
		if !version.Sound(b) {
			continue
		}
		many++
		for _, index := range []uint64{8, 9, 30} {
			next := b
			next.State, _ = version.Step(s, index)
			if !version.Sound(next) {
				t.Error(s, "stepped", next.State)
			}
			for v := range 6 {
				for _, c := range byKinds(v) {
					after, _, _ := version.Apply(next, c, index)
					if !version.Sound(after) {
						t.Error(next.State, c, after.State)
					}
				}
			}
		}
	}
	if many < 20 {
		t.Error("hardly any was sound", many)
	}
}
