package command_test

import (
	"encoding/binary"
	"math"
	"math/rand"
	"slices"

	"jobber/api"
	"jobber/rules"
)

// part is a field of a command: its name, how it is written, and how a number is put there.
type part struct {
	name string
	nat  bool
	get  func(c api.Command) int64
	set  func(c *api.Command, n int64)
}

// parts are all fields behind Kind, Client and Req that are numbers.
func parts() []part {
	return []part{
		{"Account", false, func(c api.Command) int64 { return int64(c.Account) }, func(c *api.Command, n int64) { c.Account = int(n) }},
		{"Asset", false, func(c api.Command) int64 { return int64(c.Asset) }, func(c *api.Command, n int64) { c.Asset = int(n) }},
		{"ID", true, func(c api.Command) int64 { return int64(c.ID) }, func(c *api.Command, n int64) { c.ID = uint64(n) }},
		{"Side", false, func(c api.Command) int64 { return int64(c.Side) }, func(c *api.Command, n int64) { c.Side = int(n) }},
		{"Type", false, func(c api.Command) int64 { return int64(c.Type) }, func(c *api.Command, n int64) { c.Type = int(n) }},
		{"Price", false, func(c api.Command) int64 { return c.Price }, func(c *api.Command, n int64) { c.Price = n }},
		{"Qty", false, func(c api.Command) int64 { return c.Qty }, func(c *api.Command, n int64) { c.Qty = n }},
		{"Replica", false, func(c api.Command) int64 { return int64(c.Replica) }, func(c *api.Command, n int64) { c.Replica = int(n) }},
		{"Version", false, func(c api.Command) int64 { return int64(c.Version) }, func(c *api.Command, n int64) { c.Version = int(n) }},
		{"At", true, func(c api.Command) int64 { return int64(c.At) }, func(c *api.Command, n int64) { c.At = uint64(n) }},
	}
}

// kinds are all kinds.
func kinds() []int {
	return []int{1, 2, 3, 4, 5, 6, 7, 8, 9, 10, 11, 12, 13, 14, 15}
}

// noKinds tells numbers that are no kind.
func noKinds() []int {
	return []int{0, 16, 17, 100, -1, -2, -15, 1<<32 + 1, 1<<32 + 15, math.MinInt, math.MinInt + 1, math.MaxInt}
}

// named tells by the chapter's words which fields a kind has, in their order; Rules are not among them.
func named(kind int) []string {
	switch kind {
	case api.CmdDeposit, api.CmdWithdraw:
		return []string{"Account", "Asset", "Qty"}
	case api.CmdPlace:
		return []string{"Account", "ID", "Side", "Type", "Price", "Qty"}
	case api.CmdCancel:
		return []string{"Account", "ID"}
	case api.CmdReplace:
		return []string{"Account", "ID", "Price", "Qty"}
	case api.CmdSettle:
		return []string{"Account"}
	case api.CmdAck:
		return []string{"Replica", "Version"}
	case api.CmdShade:
		return []string{"Version"}
	case api.CmdActivate:
		return []string{"Version", "At"}
	}
	return nil
}

// byWords tells a sound command's bytes by the chapter's words.
func byWords(c api.Command) []byte {
	b := binary.AppendUvarint(nil, uint64(c.Kind))
	b = binary.AppendUvarint(b, c.Client)
	b = binary.AppendUvarint(b, c.Req)
	for _, name := range named(c.Kind) {
		p := parts()[slices.IndexFunc(parts(), func(p part) bool { return p.name == name })]
		if p.nat {
			b = binary.AppendUvarint(b, uint64(p.get(c)))
		} else {
			b = binary.AppendVarint(b, p.get(c))
		}
	}
	if c.Kind == api.CmdPropose {
		b = append(b, rules.Bytes(c.Rules)...)
	}
	return b
}

// wild tells numbers of all sizes.
func wild() []int64 {
	return []int64{0, 1, -1, 2, 63, 64, -64, -65, 127, 128, 300, 1 << 32, -1 << 40, 1<<62 + 1, math.MaxInt64, math.MinInt64, math.MinInt64 + 1}
}

// small tells a rule set as short as it may be.
func small() api.Rules {
	return api.Rules{
		Version: 1, Ticks: []api.Tick{{From: 0, Size: 1}}, Lot: 1, Fees: []api.Tier{{}},
		Round: api.Down, Priority: api.ByTime, Self: api.Allow, Layout: api.Ladder,
	}
}

// great tells a rule set whose bytes are as many as may be.
func great() api.Rules {
	r := api.Rules{
		Version: api.MaxVersion, Lot: api.MaxQty, Band: api.Million,
		Round: api.Even, Priority: api.ByShare, Self: api.DropBoth, Layout: api.Grove,
	}
	for i := range int64(8) {
		r.Ticks = append(r.Ticks, api.Tick{From: i * (api.MaxPrice / 7), Size: api.MaxPrice - i})
		r.Fees = append(r.Fees, api.Tier{From: i * (api.MaxMoney / 7), Maker: api.MaxFee - i, Taker: api.MaxFee})
	}
	return r
}

// sound tells a sound command of a kind, with a number in each field that it has.
func sound(kind int, number func() int64) api.Command {
	c := api.Command{Kind: kind, Client: uint64(number()) % (api.MaxClients + 1), Req: uint64(number())}
	for _, p := range parts() {
		if slices.Contains(named(kind), p.name) {
			p.set(&c, number())
		}
	}
	if kind == api.CmdPropose {
		c.Rules = small()
	}
	return c
}

// chosen tells sound commands of all kinds, of numbers that chance chooses, small ones and great ones.
func chosen(seed int64, n int) []api.Command {
	src := rand.New(rand.NewSource(seed))
	number := func() int64 { return int64(src.Uint64()) >> src.Intn(64) }
	var l []api.Command
	for range n {
		for _, kind := range kinds() {
			c := sound(kind, number)
			if kind == api.CmdPropose && src.Intn(2) == 0 {
				c.Rules = great()
				c.Rules.Version = 1 + src.Intn(api.MaxVersion)
				c.Rules.Ticks = c.Rules.Ticks[:1+src.Intn(8)]
				c.Rules.Fees = c.Rules.Fees[:1+src.Intn(8)]
			}
			l = append(l, c)
		}
	}
	return l
}
