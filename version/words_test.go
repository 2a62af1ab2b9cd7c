package version_test

import (
	"encoding/binary"
	"slices"
	"testing"

	"jobber/acks"
	"jobber/api"
	"jobber/registry"
	"jobber/rules"
	"jobber/sample"
	"jobber/version"
)

// What the tests begin with.
var (
	propose, ack, shade, unshade = sample.Propose, sample.Ack, sample.Shade, sample.Unshade
	activate, rollback           = sample.Activate, sample.Rollback
)

// set tells a rule set of a version.
func set(v int) api.Rules {
	return sample.By(func(r *api.Rules) { r.Version, r.Lot = v, int64(10*v) })
}

// sets tells a registry of some versions.
func sets(t *testing.T, versions ...int) *registry.Registry {
	t.Helper()
	g := registry.New(set(versions[0]))
	for _, v := range versions[1:] {
		if e := g.Put(set(v)); e != api.OK {
			t.Fatal(v, int(e))
		}
	}
	return g
}

// said tells a table of two replicas, both of which have said that they support some versions.
func said(t *testing.T, versions ...int) acks.Table {
	t.Helper()
	table, e := acks.New(2)
	for _, v := range versions {
		for i := range 2 {
			if e == api.OK {
				table, e = table.Add(i, v)
			}
		}
	}
	if e != api.OK {
		t.Fatal(versions, int(e))
	}
	return table
}

// board tells a board of the versions 1 to 5, of which 2 to 4 are supported by both replicas, and 5 by one alone.
func board(t *testing.T, s version.State) version.Board {
	t.Helper()
	table, e := said(t, 2, 3, 4).Add(1, 5)
	if e != api.OK {
		t.Fatal(int(e))
	}
	return version.Board{State: s, Rules: sets(t, 1, 2, 3, 4, 5), Acks: table}
}

// model is a board by the chapter's words: its rule sets are a plain list of versions, its acks one of pairs.
type model struct {
	state    version.State
	versions []int
	replicas int
	acks     [][2]int // a replica, and a version
}

// all tells whether all replicas have said that they support a version.
func (m *model) all(v int) bool {
	for i := range m.replicas {
		if !slices.Contains(m.acks, [2]int{i, v}) {
			return false
		}
	}
	return m.replicas > 0
}

// rule is an error, and when it is one.
type rule struct {
	is bool
	e  api.Errno
}

// errorsOf tells a command's errors, in the order in which the chapters name them.
func (m *model) errorsOf(c api.Command, index uint64) []rule {
	s := m.state
	missing := rule{!slices.Contains(m.versions, c.Version), api.ErrNone}
	switch c.Kind {
	case api.CmdPropose:
		return []rule{
			{rules.Check(c.Rules) != nil, api.ErrRules},
			{slices.Contains(m.versions, c.Rules.Version), api.ErrThere},
			{len(m.versions) >= 16, api.ErrFull},
		}
	case api.CmdAck:
		return []rule{missing, {c.Replica < 0 || c.Replica >= m.replicas, api.ErrArg}}
	case api.CmdShade:
		return []rule{
			missing, {s.Shadow != 0, api.ErrState}, {c.Version == s.Active, api.ErrVersion},
			{!m.all(c.Version), api.ErrAcks},
		}
	case api.CmdUnshade:
		return []rule{{s.Shadow == 0, api.ErrState}}
	case api.CmdActivate:
		return []rule{
			missing, {s.Pending != 0, api.ErrState}, {c.Version == s.Active, api.ErrVersion},
			{c.At <= index, api.ErrOld}, {c.At > index && c.At-index > 1<<20, api.ErrBig}, {!m.all(c.Version), api.ErrAcks},
		}
	case api.CmdRollback:
		return []rule{{s.Pending == 0 && s.Previous == 0, api.ErrState}}
	}
	return []rule{{true, api.ErrArg}}
}

// do does a command, and tells its event.
func (m *model) do(c api.Command, index uint64) (api.Event, api.Errno) {
	for _, r := range m.errorsOf(c, index) {
		if r.is {
			return api.Event{}, r.e
		}
	}
	s := &m.state
	switch c.Kind {
	case api.CmdPropose:
		m.versions = append(m.versions, c.Rules.Version)
		return api.Event{Kind: api.EvPropose, Version: c.Rules.Version}, api.OK
	case api.CmdAck:
		m.acks = append(m.acks, [2]int{c.Replica, c.Version})
		return api.Event{Kind: api.EvAck, Account: c.Replica, Version: c.Version}, api.OK
	case api.CmdShade:
		s.Shadow = c.Version
		return api.Event{Kind: api.EvShade, Version: c.Version}, api.OK
	case api.CmdUnshade:
		was := s.Shadow
		s.Shadow = 0
		return api.Event{Kind: api.EvUnshade, Version: was}, api.OK
	case api.CmdActivate:
		s.Pending, s.At = c.Version, c.At
		return api.Event{Kind: api.EvSchedule, Version: c.Version, Index: c.At}, api.OK
	}
	if s.Pending != 0 {
		s.Pending, s.At = 0, 0
	} else {
		s.Active, s.Previous, s.Shadow = s.Previous, 0, 0
	}
	return api.Event{Kind: api.EvRollback, Version: s.Active}, api.OK
}

// is holds a board against what the model has.
func (m *model) is(t *testing.T, b version.Board, why ...any) {
	t.Helper()
	if b.State != m.state {
		t.Errorf("%v: %+v, want %+v", why, b.State, m.state)
	}
	versions := slices.Sorted(slices.Values(m.versions))
	if l := b.Rules.Versions(); !slices.Equal(l, versions) {
		t.Error(why, "versions", l, versions)
	}
	for _, v := range versions {
		if r, _ := b.Rules.Get(v); !rules.Same(r, set(v)) {
			t.Error(why, "rules", r)
		}
	}
	if b.Acks.Replicas() != m.replicas {
		t.Error(why, "replicas", b.Acks.Replicas())
	}
	for i := range m.replicas {
		var bits uint64
		for _, a := range m.acks {
			if a[0] == i {
				bits |= 1 << (a[1] - 1)
			}
		}
		if b.Acks.Of(i) != bits {
			t.Errorf("%v: acks of %d: %b, want %b", why, i, b.Acks.Of(i), bits)
		}
	}
}

// bytesOf tells a state's bytes by the chapter's words.
func bytesOf(s version.State) []byte {
	b := binary.AppendVarint(nil, int64(s.Active))
	b = binary.AppendVarint(b, int64(s.Previous))
	b = binary.AppendVarint(b, int64(s.Pending))
	b = binary.AppendUvarint(b, s.At)
	return binary.AppendVarint(b, int64(s.Shadow))
}
