package sample_test

import (
	"math/rand"
	"testing"

	"jobber/api"
	"jobber/command"
	"jobber/market"
	"jobber/rules"
	"jobber/sample"
)

func TestWhatIsChosenMayBe(t *testing.T) {
	src := rand.New(rand.NewSource(1))
	kinds := map[int]int{}
	for range 2000 {
		r := sample.SomeRules(src.Intn)
		if err := rules.Check(r); err != nil {
			t.Fatal(r, err)
		}
		if s := sample.SomeState(src.Intn, r); !market.Sound(s) {
			t.Fatal(s)
		}
		kinds[sample.SomeCommand(src.Intn, r.Lot).Kind]++
	}
	for kind := api.CmdDeposit; kind <= api.CmdSettle; kind++ {
		if kinds[kind] == 0 {
			t.Error("never", kind)
		}
	}
}

func TestWhatIsPlainMayBe(t *testing.T) {
	for i, s := range sample.States() {
		if !market.Sound(s) {
			t.Error(i)
		}
	}
	for i, spoil := range sample.Spoils() {
		if rules.Check(sample.By(spoil)) == nil {
			t.Error(i)
		}
	}
	if sample.Rich(sample.Rules(), 5, 6) == nil || sample.Rich(sample.Rules(), -1, 0) != nil {
		t.Error("rich")
	}
	for _, c := range []api.Command{
		sample.Deposit(1, api.Cash, 5), sample.Withdraw(1, api.Stock, 5), sample.Place(api.Limit, sample.At(7, sample.Sell(1, 2, 3, 4))),
		sample.Cancel(1, 2), sample.Replace(1, 2, 3, 4), sample.Settle(1), sample.Halt(), sample.Uncross(),
		sample.Propose(sample.Rules()), sample.Ack(1, 2), sample.Shade(1), sample.Unshade(), sample.Activate(1, 2), sample.Rollback(),
	} {
		if c.Client, c.Req = 1, 1; !command.Sound(c) {
			t.Error(c)
		}
	}
}
