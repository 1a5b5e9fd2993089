package xshard_test

import (
	"fmt"
	"math"
	"slices"
	"strings"
	"testing"

	"tiller/api"
	"tiller/dag"
	"tiller/exec"
	"tiller/ring"
	"tiller/shard"
	"tiller/xshard"
)

// P12.4

const (
	waits  = "workflow waits\na wait s\nb timer 5 after a\n"
	acts   = "workflow acts\na activity q tries 2 timeout 7\nb wait s after a\n"
	parent = "workflow parent\nk child acts\nl child waits\nz wait s after k l\n"
)

// own is the shard of most tests, away the one of most senders.
const own, away = 1, 2

// target is the own shard, with all definitions.
func target(t testing.TB) *pair {
	t.Helper()
	return lay(t, own, waits, acts, parent)
}

// startOf is a mail that starts a workflow.
func startOf(flow, def string) api.Mail {
	return api.Mail{Kind: api.MailStart, To: flow, From: flowOf(away, 0), Node: "n", Name: def}
}

func signalTo(flow, name, text string) api.Mail {
	return api.Mail{Kind: api.MailSignal, To: flow, From: flowOf(away, 0), Node: "n", Name: name, Text: text}
}

func cancelOf(flow, text string) api.Mail {
	return api.Mail{Kind: api.MailCancel, To: flow, From: flowOf(away, 0), Node: "n", Text: text}
}

func childOf(flow, node string, status int, text string) api.Mail {
	return api.Mail{Kind: api.MailChild, To: flow, From: flow + "/" + node, Node: node, Status: status, Text: text}
}

func TestRuns(t *testing.T) {
	p := target(t)
	f := flowOf(own, 0)
	e := p.next(away, startOf(f, "waits"))
	p.acks(e, 1)
	p.acks(e, 1)
	e.Seq = 3
	p.refuses(e, api.ErrOrder)
	p.acks(p.next(3, signalTo(flowOf(own, 1), "s", "")), 1)
	if p.x.Mark(3) != 1 || len(p.x.Flows()) != 1 {
		t.Fatal(p.x.Mark(3), p.x.Flows())
	}
	p.acks(p.next(away, startOf(flowOf(own, 1), "other")), 2)
	p.outIs(away, api.Mail{Kind: api.MailChild, To: flowOf(away, 0), From: flowOf(own, 1), Node: "n", Status: api.Broken, Text: "none"})
	p.collects(p.c, ackOf(away, own, 1), 1, api.OK)
	p.collects(p.c, ackOf(away, own, 0), 0, api.OK)
}

// Each mail's effect is that of its input.
func TestEffects(t *testing.T) {
	p := target(t)
	f, g, h := flowOf(own, 0), flowOf(own, 1), flowOf(own, 2)
	p.takesEffect(away, startOf(f, "waits"), 2)
	if s, _ := p.x.Load(f); s.Def != "waits" || s.ID != f || s.Parent != flowOf(away, 0) || s.ParentNode != "n" || s.Status != api.Running {
		t.Fatal(s)
	}
	p.takesEffect(away, startOf(g, "acts"), 2)
	if l := p.x.Dispatches(); len(l) != 1 || l[0] != (api.Task{Kind: api.Dispatch, ID: 1 + 1i, Flow: g, Node: "a", Try: 1}) {
		t.Fatal(l)
	}
	p.takesEffect(3, signalTo(f, "s", "hi"), 2)
	if l := p.x.Alarms(); len(l) != 1 || l[0] != (api.Task{Kind: api.Alarm, ID: 1 + 2i, Flow: f, Node: "b", At: now + 5}) {
		t.Fatal(l)
	}
	p.takesEffect(0, signalTo(f, "s", "more"), 1) // it is kept
	p.starts(h, "parent")
	p.takesEffect(own, childOf(h, "k", api.Done, "r"), 1)
	p.takesEffect(own, childOf(h, "l", api.Broken, "no"), 2)
	p.status(h, api.Broken)
	p.takesEffect(away, cancelOf(f, "c"), 1)
	p.status(f, api.Canceled)
	if l := p.x.Outbox(away); l[len(l)-1].Mail != (api.Mail{Kind: api.MailChild, To: flowOf(away, 0), From: f, Node: "n", Status: api.Canceled, Text: "c"}) {
		t.Fatal(l)
	}
	for from, mark := range []int{1, 2, 3, 1} {
		if got := p.x.Mark(from); got != mark {
			t.Fatal(from, got)
		}
	}
}

// The time is that at which an envelope is received.
func TestTime(t *testing.T) {
	for _, now := range []int{0, 1, api.MaxTime - 5} {
		p := lay(t, own, "workflow w\na timer 5")
		f := flowOf(own, 0)
		if _, why := p.receivedBy(0, p.next(away, startOf(f, "w")), now); why != api.OK {
			t.Fatal(why)
		}
		if l := p.x.Alarms(); len(l) != 1 || l[0].At != now+5 {
			t.Fatal(l)
		}
	}
}

// wrong are envelopes that are ErrArg, but for e itself.
func wrong(e api.Envelope) []api.Envelope {
	var list []api.Envelope
	with := func(change func(e *api.Envelope)) {
		spoiled := e
		change(&spoiled)
		list = append(list, spoiled)
	}
	for _, kind := range []int{math.MinInt, -1, 0, api.EnvAck, 3, math.MaxInt} {
		with(func(e *api.Envelope) { e.Kind = kind })
	}
	for _, to := range append(notShards(), 0, 2, 3) {
		with(func(e *api.Envelope) { e.To = to })
	}
	for _, from := range []int{math.MinInt, -1, 16, math.MaxInt} {
		with(func(e *api.Envelope) { e.From = from })
	}
	for _, seq := range []int{math.MinInt, -1, 0} {
		with(func(e *api.Envelope) { e.Seq = seq })
	}
	return append(list, api.Envelope{})
}

// stages are envelopes that are old, next, ahead: the mark of away is 1 then.
func stages(p *pair) []api.Envelope {
	f := flowOf(own, 0)
	first := p.next(away, startOf(f, "waits"))
	p.acks(first, 1)
	second, third := first, first
	second.Seq, second.Mail = 2, signalTo(f, "s", "hi")
	third.Seq, third.Mail = 3, cancelOf(f, "c")
	return []api.Envelope{first, second, third}
}

func TestWrongEnvelopes(t *testing.T) {
	p := target(t)
	for _, e := range stages(p) {
		for _, spoiled := range wrong(e) {
			p.refuses(spoiled, api.ErrArg)
		}
		for i, x := range []*exec.Exec{nil, p.x, nil} {
			c := []*shard.Ctx{p.c, nil, nil}[i]
			if got, why := xshard.Receive(x, c, p.defs, e, now); why != api.ErrArg || got != (api.Envelope{}) {
				t.Fatal(got, why)
			}
		}
	}
	p.same()
}

// A closed hold: ErrArg comes ahead of ErrOwner, and that ahead of where the envelope stands.
func TestClosedHold(t *testing.T) {
	p := target(t)
	l := stages(p)
	p.both(func(s *side) { s.c.Release() })
	for _, e := range l {
		p.refuses(e, api.ErrOwner)
		for _, spoiled := range wrong(e) {
			p.refuses(spoiled, api.ErrArg)
		}
		if got, why := xshard.Receive(nil, p.c, p.defs, e, now); why != api.ErrArg || got != (api.Envelope{}) {
			t.Fatal(got, why)
		}
	}
	p.takes()
	p.acks(l[1], 2)
	p.acks(l[2], 3)
}

// A hold that is no more the last one learns it when it commits: nothing is done.
func TestEarlierHold(t *testing.T) {
	f, g := flowOf(own, 0), flowOf(own, 1)
	for i, m := range []api.Mail{signalTo(f, "s", "hi"), cancelOf(f, ""), startOf(g, "acts"), startOf(f, "acts"), startOf(g, "none"), signalTo(g, "s", ""), {}} {
		p := target(t)
		l := stages(p)
		p.takes()
		first := func(e api.Envelope, want api.Errno) {
			t.Helper()
			if got, why := p.receivedBy(0, e, now); why != want || (why == api.OK) != (got == ackOf(own, away, 1)) {
				t.Fatal(i, e, got, why)
			}
		}
		first(l[0], api.OK)
		first(l[2], api.ErrOrder)
		if !p.holds[0][0].Open() {
			t.Fatal("it is closed")
		}
		l[1].Mail = m
		first(l[1], api.ErrFence)
		for _, e := range l {
			first(e, api.ErrOwner)
		}
		p.acks(l[1], 2)
		p.acks(l[0], 2)
	}
}

// orders are all orders of 1 to n.
func orders(n int) [][]int {
	if n == 0 {
		return [][]int{nil}
	}
	var list [][]int
	for _, order := range orders(n - 1) {
		for at := range n {
			list = append(list, slices.Insert(slices.Clone(order), at, n))
		}
	}
	return list
}

// In every order, again and again: each takes effect once, in the order of their numbers.
func TestEveryOrder(t *testing.T) {
	f := flowOf(own, 0)
	mails := []api.Mail{startOf(f, "parent"), signalTo(f, "u", "1"), signalTo(f, "u", "2"), {}, cancelOf(f, "c")}
	for _, order := range orders(len(mails)) {
		p := target(t)
		for p.x.Mark(away) < len(mails) {
			for _, seq := range order {
				mark := p.x.Mark(away)
				e := api.Envelope{Kind: api.EnvMail, From: away, To: own, Seq: seq, Mail: mails[seq-1]}
				switch {
				case seq > mark+1:
					p.refuses(e, api.ErrOrder)
				case seq == mark+1:
					p.acks(e, seq)
					p.acks(e, seq)
				default:
					p.acks(e, mark)
				}
			}
		}
		texts := ""
		for _, e := range p.x.Events(f) {
			texts += fmt.Sprint(e.Kind, e.Text, " ")
		}
		if want := fmt.Sprintf("%d%s %d %d %d1 %d2 %dc ", api.Started, flowOf(away, 0), api.ChildAsked, api.ChildAsked, api.Kept, api.Kept, api.Closed); texts != want {
			t.Fatal(order, texts, want)
		}
	}
}

// An old number is acknowledged whatever the mail is that comes with it.
func TestOldWithAnotherMail(t *testing.T) {
	p := target(t)
	l := stages(p)
	p.acks(l[1], 2)
	for _, m := range []api.Mail{{}, startOf(flowOf(own, 3), "acts"), startOf(flowOf(own, 3), "none"), signalTo(flowOf(own, 0), "s", "x"), l[2].Mail} {
		for seq := 1; seq <= 2; seq++ {
			p.acks(api.Envelope{Kind: api.EnvMail, From: away, To: own, Seq: seq, Mail: m}, 2)
		}
	}
}

func TestStartOfAWorkflowThatThereIs(t *testing.T) {
	f := flowOf(own, 0)
	for _, def := range []string{"waits", "acts", "none", ""} { // also of a definition that there is not: nothing goes back
		p := target(t)
		p.takesEffect(away, startOf(f, "waits"), 2)
		p.isPassedBy(away, startOf(f, def), 0)
		p.isPassedBy(3, startOf(f, def), 0)
		p.takesEffect(away, cancelOf(f, ""), 1)
		p.isPassedBy(away, startOf(f, def), 0) // it is closed, but there
	}
	p := target(t)
	p.both(func(s *side) { // it has no events, but it is there
		_, why := s.x.Commit(s.c, api.Update{Flow: f, State: api.State{ID: f}, Request: "r"})
		answers(t, why, api.OK)
	})
	p.isPassedBy(away, startOf(f, "waits"), 0)
	p.isPassedBy(away, signalTo(f, "s", ""), 0)
}

func TestStartOfAnUnknownDefinition(t *testing.T) {
	f := flowOf(own, 0)
	for _, defs := range [][]api.Def{nil, {}, {parsed(t, waits)}, {parsed(t, acts), parsed(t, parent)}} {
		for _, from := range []int{away, own, 0} { // the refusal goes to the shard of the mail's From, whatever the envelope's is
			for _, sender := range []string{flowOf(away, 0), flowOf(own, 1), flowOf(0, 0), f} {
				for _, def := range []string{"", "w", "Waits", "waits ", "acts/"} {
					p := lay(t, own)
					p.defs = defs
					m := startOf(f, def)
					m.From, m.Text, m.Status = sender, "x", api.Done
					p.isPassedBy(from, m, 1)
					p.outIs(ring.Shard(sender, shards), api.Mail{Kind: api.MailChild, To: sender, From: f, Node: "n", Status: api.Broken, Text: "none"})
				}
			}
		}
	}
}

// The first definition of a name counts: for a start, and for all that comes behind it.
func TestDefinitionTwice(t *testing.T) {
	p := lay(t, own, acts, "workflow w\na wait s\nb wait s after a", "workflow w\na timer 5", "workflow w\na send x s")
	f := flowOf(own, 0)
	p.takesEffect(away, startOf(f, "w"), 2)
	if s, _ := p.x.Load(f); len(s.Nodes) != 2 || len(p.x.Alarms()) != 0 {
		t.Fatal(s)
	}
	p.takesEffect(away, signalTo(f, "s", ""), 2)
	p.takesEffect(away, signalTo(f, "s", ""), 2)
	p.status(f, api.Done)
}

// filled is a shard with so many workflows, which wait.
func filled(t testing.TB, many int) *pair {
	t.Helper()
	p := target(t)
	for i := 0; len(p.x.Flows()) < many; i++ {
		if flow := fmt.Sprint("g/", i); ring.Shard(flow, shards) == own {
			p.starts(flow, "waits")
		}
	}
	return p
}

func TestFullShard(t *testing.T) {
	p := filled(t, api.MaxFlows-1)
	f, g := flowOf(own, 0), flowOf(own, 1)
	p.takesEffect(away, startOf(f, "waits"), 2) // the last one
	m := startOf(g, "acts")
	m.From = flowOf(3, 0)
	p.isPassedBy(away, m, 1)
	p.outIs(3, api.Mail{Kind: api.MailChild, To: flowOf(3, 0), From: g, Node: "n", Status: api.Broken, Text: "full"})
	if len(p.x.Flows()) != api.MaxFlows || p.c.Made() != 0 {
		t.Fatal(len(p.x.Flows()), p.c.Made())
	}
	m.Name = "none" // what defs lacks is `none` also here
	p.isPassedBy(away, m, 1)
	if l := p.x.Outbox(3); l[1].Mail.Text != "none" {
		t.Fatal(l)
	}
	p.isPassedBy(away, startOf(f, "waits"), 0) // it is there
	p.isPassedBy(away, signalTo(g, "s", ""), 0)
	p.takesEffect(away, signalTo(f, "s", ""), 2) // all others go on
	p.takesEffect(away, cancelOf(f, ""), 1)
	p.isPassedBy(away, startOf(g, "acts"), 1) // a closed one counts all the same
}

// A start of a full shard meets trouble: it is neither passed by nor is anything sent.
func TestFullShardInTrouble(t *testing.T) {
	p := filled(t, api.MaxFlows)
	e := p.next(away, startOf(flowOf(own, 1), "acts"))
	p.meets(0, 1)
	p.refuses(e, api.ErrIO)
	p.meets(0, stops)
	p.refuses(e, api.ErrDead)
	p.heals()
	if p.sent() != 0 {
		t.Fatal(p.sent())
	}
	p.takes()
	if got, why := p.receivedBy(0, e, now); why != api.ErrFence || got != (api.Envelope{}) {
		t.Fatal(got, why)
	}
	p.isPassedBy(away, e.Mail, 1)
}

// A mail to a workflow that there is not.
func TestNobody(t *testing.T) {
	p := target(t)
	p.starts(flowOf(own, 0), "parent")
	for _, to := range []string{flowOf(own, 1), flowOf(away, 0), "", "a b", "\xff", strings.Repeat("f", 300)} {
		for _, kind := range kinds() {
			if kind != api.MailStart {
				p.isPassedBy(away, api.Mail{Kind: kind, To: to, From: flowOf(away, 0), Node: "k", Name: "s"}, 0)
			}
		}
	}
}

// A mail of no Kind.
func TestNoKind(t *testing.T) {
	p := target(t)
	f := flowOf(own, 0)
	p.starts(f, "parent")
	for _, kind := range []int{math.MinInt, -1, 0, 5, 6, 7, 8, math.MaxInt} {
		p.isPassedBy(away, api.Mail{Kind: kind, To: f, From: flowOf(away, 0), Node: "k", Name: "s", Status: api.Done}, 0)
		p.isPassedBy(own, api.Mail{Kind: kind, Name: "waits"}, 0)
	}
}

// A workflow whose definition is none of defs.
func TestLostDefinition(t *testing.T) {
	p := target(t)
	f, g := flowOf(own, 0), flowOf(own, 1)
	p.starts(f, "parent")
	p.starts(g, "waits")
	all := p.defs
	for _, defs := range [][]api.Def{nil, {all[1]}, {all[0], all[1]}} {
		p.defs = defs
		p.isPassedBy(away, signalTo(f, "s", ""), 0)
		p.isPassedBy(away, cancelOf(f, ""), 0)
		p.isPassedBy(away, childOf(f, "k", api.Done, ""), 0)
	}
	p.takesEffect(away, signalTo(g, "s", ""), 2)
	p.defs = all
	p.takesEffect(away, cancelOf(f, ""), 1)
}

// What Step refuses.
func TestStepRefuses(t *testing.T) {
	p := target(t)
	f, g := flowOf(own, 0), flowOf(own, 1)
	p.starts(f, "parent")
	p.starts(g, "acts")
	for _, node := range []string{"", "n", "z", "a", "K", "k "} { // none, or no child
		p.isPassedBy(away, childOf(f, node, api.Done, ""), 0)
		p.isPassedBy(away, childOf(g, node, api.Broken, ""), 0)
	}
	for _, name := range []string{"", "a b", "a/b", strings.Repeat("s", 65)} {
		p.isPassedBy(away, signalTo(f, name, ""), 0)
	}
	p.isPassedBy(away, signalTo(f, "s", strings.Repeat("x", 257)), 0)
	p.isPassedBy(away, cancelOf(f, strings.Repeat("x", 257)), 0)
	p.takesEffect(away, childOf(f, "k", api.Done, ""), 1)
	p.isPassedBy(away, childOf(f, "k", api.Done, ""), 0) // it is over
	for range api.MaxSignals {
		p.takesEffect(away, signalTo(g, "s", ""), 1)
	}
	p.isPassedBy(away, signalTo(g, "s", ""), 0) // full of signals: that is no full shard, and nothing goes back
	p.takesEffect(away, cancelOf(f, ""), 1)
	for _, m := range []api.Mail{signalTo(f, "s", ""), cancelOf(f, ""), childOf(f, "l", api.Done, ""), startOf(f, "parent")} { // it is closed
		p.isPassedBy(away, m, 0)
	}
}

// What Commit refuses: no envelope, and nothing is done.
func TestCommitRefuses(t *testing.T) {
	p := target(t)
	f := flowOf(own, 0)
	p.starts(f, "waits")
	for _, to := range []string{flowOf(0, 0), flowOf(away, 1), "", "a b", "\xff", strings.Repeat("f", 257)} {
		p.refuses(p.next(away, startOf(to, "waits")), api.ErrName)
	}
	for _, from := range []int{shards, api.MaxShards - 1} { // shards that this cluster has not
		p.refuses(p.next(from, startOf(flowOf(own, 1), "waits")), api.ErrArg)
		p.refuses(p.next(from, signalTo(f, "s", "")), api.ErrArg)
		later := p.next(from, signalTo(f, "s", ""))
		later.Seq++
		p.refuses(later, api.ErrOrder)
	}
	large := strings.Repeat("x", 65001)
	m := startOf(flowOf(own, 1), "waits")
	m.Node = large
	p.refuses(p.next(away, m), api.ErrForm)
	p.starts(flowOf(own, 2), "parent")
	p.refuses(p.next(away, childOf(flowOf(own, 2), "k", api.Done, large)), api.ErrForm)
	if p.x.Mark(away) != 0 {
		t.Fatal(p.x.Mark(away))
	}
	p.takesEffect(away, signalTo(f, "s", ""), 2)
}

// What Pass refuses: likewise.
func TestPassRefuses(t *testing.T) {
	p := target(t)
	f := flowOf(own, 0)
	p.starts(f, "waits")
	for _, from := range []int{shards, api.MaxShards - 1} {
		for _, m := range []api.Mail{{}, signalTo(flowOf(own, 1), "s", ""), startOf(f, "waits"), startOf(flowOf(own, 1), "none"), childOf(f, "k", 0, "")} {
			p.refuses(p.next(from, m), api.ErrArg)
		}
	}
	m := startOf(flowOf(own, 1), "none")
	for _, from := range []string{"", "a b", "\xff", strings.Repeat("f", 257)} { // nobody to whom the refusal could go
		m.From = from
		p.refuses(p.next(away, m), api.ErrForm)
	}
	m = startOf(flowOf(own, 1), "none")
	m.Node = strings.Repeat("x", 65001)
	p.refuses(p.next(away, m), api.ErrForm)
	m.Node = strings.Repeat("x", 60000)
	p.isPassedBy(away, m, 1)
	p.isPassedBy(away, startOf(flowOf(away, 3), "none"), 1) // a workflow of another shard, and none: that is not looked at
	p.isPassedBy(away, startOf("a b", "none"), 1)
}

// One that nobody asked for has no parent.
func TestStartFromNobody(t *testing.T) {
	p := target(t)
	m := startOf(flowOf(own, 0), "waits")
	m.From = ""
	p.takesEffect(away, m, 2)
	p.takesEffect(away, cancelOf(m.To, ""), 1)
	if p.sent() != 0 {
		t.Fatal(p.sent())
	}
}

// A hold of another shard than the store is meant for: what needs no commit is answered, all else is what Commit and Pass refuse.
func TestAnothersHold(t *testing.T) {
	p := target(t)
	l := stages(p)
	other := newSide(3)
	receive := func(e api.Envelope) (api.Envelope, api.Errno) {
		e.To = 3
		return xshard.Receive(p.x, other.c, p.defs, e, now)
	}
	if got, why := receive(l[0]); why != api.OK || got != ackOf(3, away, 1) {
		t.Fatal(got, why)
	}
	if got, why := receive(l[2]); why != api.ErrOrder || got != (api.Envelope{}) {
		t.Fatal(got, why)
	}
	for _, m := range []api.Mail{l[1].Mail, {}, startOf(flowOf(own, 1), "acts"), startOf(flowOf(own, 1), "none")} {
		l[1].Mail = m
		if got, why := receive(l[1]); why != api.ErrArg || got != (api.Envelope{}) {
			t.Fatal(got, why)
		}
	}
	if got, why := xshard.Receive(p.x, other.c, p.defs, l[1], now); why != api.ErrArg || got != (api.Envelope{}) {
		t.Fatal(got, why)
	}
	p.same()
}

// Definitions that are not right: the calls end, whatever they answer.
func TestRoughDefinitions(t *testing.T) {
	f := flowOf(own, 0)
	rough := []api.Def{
		{}, {Name: "w"}, {Name: "w", Nodes: make([]api.Node, 40)},
		{Name: "w", Nodes: []api.Node{{Name: "a", Kind: 9}, {Name: "a", Kind: api.Send, To: "\xff"}, {Name: "b", Kind: api.Timer, Delay: math.MaxInt}}},
		{Name: "w", Nodes: []api.Node{{Name: "a", Kind: api.Wait, Arg: "s", After: []string{"a"}}, {Name: "b", Kind: api.Child, Arg: "w", After: []string{"c"}}}},
	}
	for _, def := range rough {
		for _, time := range []int{math.MinInt, -1, 0, math.MaxInt} {
			p := lay(t, own)
			p.defs = []api.Def{def}
			for _, m := range []api.Mail{startOf(f, def.Name), signalTo(f, "s", ""), childOf(f, "a", api.Done, ""), cancelOf(f, "")} {
				p.receivedBy(0, p.next(away, m), time)
			}
		}
	}
}

// A disk that fails or stops while an envelope is received, and the same envelope again; then a crash in between.

// trials are mails to a shard that prepared has, with how many events and envelopes they make.
func trials() []struct {
	mail         api.Mail
	events, sent int
} {
	f, g := flowOf(own, 0), flowOf(own, 1)
	return []struct {
		mail         api.Mail
		events, sent int
	}{
		{startOf(g, "parent"), 3, 2},
		{startOf(g, "acts"), 2, 0},
		{signalTo(f, "s", "hi"), 1, 0},
		{childOf(f, "k", api.Broken, "no"), 2, 2}, // it closes, the other child is canceled, and its parent is told
		{cancelOf(f, "c"), 1, 3},
		{startOf(f, "acts"), 0, 0},
		{startOf(g, "none"), 0, 1},
		{signalTo(g, "s", ""), 0, 0},
		{api.Mail{To: f}, 0, 0},
	}
}

func prepared(t testing.TB) *pair {
	t.Helper()
	p := target(t)
	p.takesEffect(away, startOf(flowOf(own, 0), "parent"), 3)
	return p
}

// once ends the test if a mail's envelope, which was received as often as it took, didn't have its effect once.
func (p *pair) once(e api.Envelope, had, sent, events, mails int) {
	p.t.Helper()
	for range 3 {
		p.acks(e, e.Seq)
	}
	if got := len(p.x.Events(e.Mail.To)); got != had+events {
		p.t.Fatalf("%+v: there are %d events, were %d, want %d more", e, got, had, events)
	}
	if p.sent() != sent+mails || p.x.Mark(e.From) != e.Seq {
		p.t.Fatalf("%+v: sent are %d, were %d, want %d more; the mark is %d", e, p.sent(), sent, mails, p.x.Mark(e.From))
	}
}

func TestTrouble(t *testing.T) {
	for i, trial := range trials() {
		for kind := stops; kind < 3; kind++ {
			for after := range 4 {
				p := prepared(t)
				e := p.next(away, trial.mail)
				had, sent := len(p.x.Events(trial.mail.To)), p.sent()
				p.meets(after, kind)
				got, why := p.received(e)
				switch {
				case why == api.OK:
				case why != api.ErrIO && why != api.ErrDead || got != (api.Envelope{}) || p.x.Mark(away) != 1 || p.sent() != sent:
					t.Fatal(i, kind, after, got, why)
				case after == 0 && why != map[bool]api.Errno{true: api.ErrDead, false: api.ErrIO}[kind == stops]:
					t.Fatal(i, kind, why)
				}
				p.heals()
				p.once(e, had, sent, trial.events, trial.sent)
			}
		}
	}
}

func TestTroubleAndCrash(t *testing.T) {
	for i, trial := range trials() {
		for kind := stops; kind < 3; kind++ {
			for after := range 4 {
				for _, cut := range []int{0, 1, 2, 3, 5, 8, 13, 30, 60, 100, 1 << 20} {
					p := prepared(t)
					e := p.next(away, trial.mail)
					had, sent := len(p.x.Events(trial.mail.To)), p.sent()
					p.meets(after, kind)
					_, why := p.received(e)
					p.crashes(cut, cut, cut)
					if mark := p.x.Mark(away); mark < 1 || mark > 2 || why == api.OK && mark != 2 {
						t.Fatal(i, kind, after, cut, mark, why)
					}
					p.once(e, had, sent, trial.events, trial.sent)
				}
			}
		}
	}
}

// A mail to the own shard goes the same way.
func TestOwnShard(t *testing.T) {
	f, g := flowOf(own, 0), flowOf(own, 1)
	p := lay(t, own, waits, "workflow sends\na send "+g+" s")
	p.starts(g, "waits")
	p.starts(f, "sends")
	e, some := xshard.Next(p.x, own)
	if !some || e.From != own || e.To != own || e.Seq != 1 {
		t.Fatal(e, some)
	}
	p.acks(e, 1)
	p.acks(e, 1)
	if s, _ := p.x.Load(g); s.Events != 4 {
		t.Fatal(s)
	}
	p.collects(p.c, ackOf(own, own, 1), 1, api.OK)
	p.acks(e, 1) // it comes once more, late
	if s, _ := p.x.Load(g); s.Events != 4 {
		t.Fatal(s)
	}
}

// A refusal to a parent of the own shard is sent there, and breaks it.
func TestRefusalBreaksTheParent(t *testing.T) {
	p := lay(t, own, "workflow w\na child v")
	f := ""
	for i := 0; f == ""; i++ { // whose child is of the own shard, too
		if flow := flowOf(own, i); ring.Shard(flow+"/a", shards) == own {
			f = flow
		}
	}
	p.starts(f, "w")
	for seq := 1; seq <= 2; seq++ {
		e, some := xshard.Next(p.x, own)
		if !some || e.Seq != seq {
			t.Fatal(e, some)
		}
		p.acks(e, seq)
		p.collects(p.c, ackOf(own, own, seq), 1, api.OK)
	}
	p.status(f, api.Broken)
	if s, _ := p.x.Load(f); s.Text != "none" {
		t.Fatal(s)
	}
}

// The longest names that there are.
func TestLongNames(t *testing.T) {
	p := target(t)
	f := ""
	for i := 0; f == "" || ring.Shard(f, shards) != own; i++ {
		f = fmt.Sprintf("%s/%05d", strings.Repeat("x", api.MaxText-6), i)
	}
	if !dag.Flow(f) || len(f) != api.MaxText {
		t.Fatal(f)
	}
	p.takesEffect(away, startOf(f, "parent"), 3) // its children's names would be too long
	p.status(f, api.Broken)
	p.outIs(away, api.Mail{Kind: api.MailChild, To: flowOf(away, 0), From: f, Node: "n", Status: api.Broken, Text: "long"})
}
