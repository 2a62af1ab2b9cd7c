package version

import (
	"cmp"

	"jobber/api"
)

// wrong tells why a command may not be done, but for what the registry and the table tell themselves.
func wrong(b Board, c api.Command, index uint64) api.Errno {
	if len(b.Rules.Versions()) == 0 { // none, or one that no call made: any other one has a rule set
		return api.ErrNil
	}
	s := b.State
	_, known := b.Rules.Get(c.Version)
	missing := when(!known, api.ErrNone)
	counts := when(c.Version == s.Active, api.ErrVersion)
	lacks := when(!b.Acks.All(c.Version), api.ErrAcks)
	switch c.Kind {
	case api.CmdPropose:
		return api.OK
	case api.CmdAck:
		return missing
	case api.CmdShade:
		return cmp.Or(missing, when(s.Shadow != 0, api.ErrState), counts, lacks)
	case api.CmdUnshade:
		return when(s.Shadow == 0, api.ErrState)
	case api.CmdActivate:
		return cmp.Or(missing, when(s.Pending != 0, api.ErrState), counts, ahead(c.At, index), lacks)
	case api.CmdRollback:
		return when(s.Pending == 0 && s.Previous == 0, api.ErrState)
	}
	return api.ErrArg
}

// when tells an error, if it is one.
func when(is bool, e api.Errno) api.Errno {
	if is {
		return e
	}
	return api.OK
}

// ahead tells what is wrong with an entry from which on a version is to count, where another one agrees on it.
func ahead(at, index uint64) api.Errno {
	if at <= index {
		return api.ErrOld
	}
	return when(at-index > api.MaxAhead, api.ErrBig)
}

// turned tells the state behind a command that may be done.
func turned(s State, c api.Command) State {
	switch c.Kind {
	case api.CmdActivate:
		s.Pending, s.At = c.Version, c.At
	case api.CmdShade:
		s.Shadow = c.Version
	case api.CmdRollback:
		if s.Pending != 0 {
			s.Pending, s.At = 0, 0
			break
		}
		s.Active, s.Previous = s.Previous, 0
		fallthrough // what is tried beside goes, too
	case api.CmdUnshade:
		s.Shadow = 0
	}
	return s
}

// told tells the event of a command that was done where s counted.
func told(s State, c api.Command) api.Event {
	switch c.Kind {
	case api.CmdPropose:
		return api.Event{Kind: api.EvPropose, Version: c.Rules.Version}
	case api.CmdAck:
		return api.Event{Kind: api.EvAck, Account: c.Replica, Version: c.Version}
	case api.CmdShade:
		return api.Event{Kind: api.EvShade, Version: c.Version}
	case api.CmdUnshade:
		return api.Event{Kind: api.EvUnshade, Version: s.Shadow}
	case api.CmdActivate:
		return api.Event{Kind: api.EvSchedule, Version: c.Version, Index: c.At}
	}
	return api.Event{Kind: api.EvRollback, Version: turned(s, c).Active}
}
