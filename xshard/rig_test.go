package xshard_test

import (
	"fmt"
	"maps"
	"math"
	"reflect"
	"slices"
	"testing"

	"tiller/api"
	"tiller/dag"
	"tiller/exec"
	"tiller/history"
	"tiller/kv"
	"tiller/lease"
	"tiller/ring"
	"tiller/shard"
	"tiller/world"
	"tiller/xshard"
)

const shards = 4

// now is when envelopes are received, if the time is nothing to the test.
const now = 50

// side is a shard: its store on a disk, and the last hold on it.
type side struct {
	n     int
	disk  *world.Disk
	table *lease.Table
	store *kv.Store
	x     *exec.Exec
	c     *shard.Ctx
}

func newSide(n int) *side {
	s := &side{n: n, disk: world.NewDisk()}
	s.table, _ = lease.Open(world.NewDisk())
	s.open()
	s.hold()
	return s
}

// open opens the store anew.
func (s *side) open() {
	s.store, _ = kv.Open(s.disk, 0)
	s.x, _ = exec.New(s.store, shards, s.n)
}

// hold takes the shard, anew.
func (s *side) hold() *shard.Ctx {
	s.c, _ = shard.Acquire(s.table, s.store, s.n, 9)
	return s.c
}

// crash: all that is not durable is gone.
func (s *side) crash(cuts ...int) {
	s.disk.Crash(cuts)
	s.open()
	s.hold()
}

// passed is what becomes of an envelope that is passed by.
func (s *side) passed(c *shard.Ctx, e api.Envelope, back ...api.Mail) (api.Envelope, api.Errno) {
	if why := s.x.Pass(c, e.From, e.Seq, back); why != api.OK {
		return api.Envelope{}, why
	}
	return api.Envelope{Kind: api.EnvAck, From: s.n, To: e.From, Seq: e.Seq}, api.OK
}

// named is the first definition of a name, or nil.
func named(defs []api.Def, name string) *api.Def {
	for i := range defs {
		if defs[i].Name == name {
			return &defs[i]
		}
	}
	return nil
}

// inputs are what a mail is as an input, by its kind.
func inputs(m api.Mail, now int) map[int]api.Input {
	return map[int]api.Input{
		api.MailStart:  {Kind: api.InStart, Name: m.To, Now: now, Parent: m.From, ParentNode: m.Node},
		api.MailChild:  {Kind: api.InChild, Node: m.Node, Text: m.Text, Status: m.Status, Now: now},
		api.MailSignal: {Kind: api.InSignal, Name: m.Name, Text: m.Text, Now: now},
		api.MailCancel: {Kind: api.InCancel, Text: m.Text, Now: now},
	}
}

// meant does what the chapter's words say of an envelope, by the calls that they name.
func (s *side) meant(c *shard.Ctx, defs []api.Def, e api.Envelope, now int) (api.Envelope, api.Errno) {
	mark := s.x.Mark(e.From)
	switch {
	case e.Kind != api.EnvMail, e.To != s.n, e.From < 0, e.From > 15, e.Seq <= 0:
		return api.Envelope{}, api.ErrArg
	case !c.Open():
		return api.Envelope{}, api.ErrOwner
	case e.Seq <= mark:
		return api.Envelope{Kind: api.EnvAck, From: s.n, To: e.From, Seq: mark}, api.OK
	case e.Seq > mark+1:
		return api.Envelope{}, api.ErrOrder
	}
	m := e.Mail
	was, there := s.x.Load(m.To)
	back := api.Mail{Kind: api.MailChild, To: m.From, From: m.To, Node: m.Node, Status: api.Broken}
	def := named(defs, was.Def)
	if m.Kind == api.MailStart {
		def = named(defs, m.Name)
		if there {
			return s.passed(c, e)
		}
		if def == nil {
			back.Text = "none"
			return s.passed(c, e, back)
		}
	} else if !there || def == nil {
		return s.passed(c, e)
	}
	in, kind := inputs(m, now)[m.Kind]
	events, state, tasks, why := history.Step(*def, was, in)
	if !kind || why != api.OK {
		return s.passed(c, e)
	}
	_, why = s.x.Commit(c, api.Update{Flow: m.To, Expect: was.Events, Events: events, State: state, Tasks: tasks, Source: e.From, Seq: e.Seq})
	if why == api.ErrFull && m.Kind == api.MailStart {
		back.Text = "full"
		return s.passed(c, e, back)
	}
	if why != api.OK {
		return api.Envelope{}, why
	}
	return api.Envelope{Kind: api.EnvAck, From: s.n, To: e.From, Seq: e.Seq}, api.OK
}

// pair is a shard twice: to the one is done what is tested, to the other what the chapter's words say. Both must tell the same at any time.
type pair struct {
	t    testing.TB
	defs []api.Def
	*side
	twin  *side
	holds [][2]*shard.Ctx // all of this store, the last one at the end
}

func lay(t testing.TB, n int, texts ...string) *pair {
	t.Helper()
	p := &pair{t: t, side: newSide(n), twin: newSide(n)}
	p.holds = [][2]*shard.Ctx{{p.side.c, p.twin.c}}
	for _, text := range texts {
		p.defs = append(p.defs, parsed(t, text))
	}
	return p
}

func parsed(t testing.TB, text string) api.Def {
	t.Helper()
	d, line, e := dag.Parse(text)
	if e != api.OK {
		t.Fatal(text, line, e)
	}
	return d
}

// both does something to both.
func (p *pair) both(do func(s *side)) {
	p.t.Helper()
	do(p.side)
	do(p.twin)
	p.same()
}

// takes takes the shard anew: the hold that it had is not the last one any more.
func (p *pair) takes() {
	p.t.Helper()
	p.both(func(s *side) { s.hold() })
	p.holds = append(p.holds, [2]*shard.Ctx{p.side.c, p.twin.c})
}

// crashes: the disk does, all holds are gone, and the shard is taken anew.
func (p *pair) crashes(cuts ...int) {
	p.t.Helper()
	p.both(func(s *side) { s.crash(cuts...) })
	p.holds = [][2]*shard.Ctx{{p.side.c, p.twin.c}}
}

// same ends the test if the two differ in anything.
func (p *pair) same() {
	p.t.Helper()
	got, want := maps.Collect(p.side.store.Scan("", "")), maps.Collect(p.twin.store.Scan("", ""))
	if !maps.Equal(got, want) {
		p.t.Fatalf("the store has\n%q\nwant\n%q", got, want)
	}
	for _, h := range p.holds {
		if h[0].Open() != h[1].Open() || h[0].Made() != h[1].Made() || h[0].Range() != h[1].Range() {
			p.t.Fatal("a hold has", h[0].Open(), h[0].Made(), h[0].Range(), "want", h[1].Open(), h[1].Made(), h[1].Range())
		}
	}
	if got, want := p.side.disk.Ops(), p.twin.disk.Ops(); got != want {
		p.t.Fatal("operations:", got, "want", want)
	}
}

// spare is a definition list like another one, with room behind each list, and something in that room.
func spare(defs []api.Def) []api.Def {
	list := make([]api.Def, 0, len(defs)+2)
	for _, d := range defs {
		nodes := make([]api.Node, 0, len(d.Nodes)+2)
		for _, n := range d.Nodes {
			if n.After != nil {
				after := append(append(make([]string, 0, len(n.After)+2), n.After...), "spare")
				n.After = after[:len(n.After)]
			}
			nodes = append(nodes, n)
		}
		nodes = append(nodes, api.Node{Name: "spare"})
		list = append(list, api.Def{Name: d.Name, Nodes: nodes[:len(d.Nodes)]})
	}
	list = append(list, api.Def{Name: "spare"})
	return list[:len(defs)]
}

// untouched ends the test if a list that spare made is not as it was, its room too; and then nothing of it stays as it was, so that whoever kept something of it is found out.
func untouched(t testing.TB, got, want []api.Def) {
	t.Helper()
	if len(want) == 0 {
		return
	}
	right := fmt.Sprintf("%+v", got) == fmt.Sprintf("%+v", want) && got[:len(got)+1][len(got)].Name == "spare" && reflect.DeepEqual(got[:len(got)+2][len(got)+1], api.Def{})
	for i, d := range got {
		right = right && reflect.DeepEqual(d.Nodes[:len(d.Nodes)+2][len(d.Nodes):], []api.Node{{Name: "spare"}, {}})
		for j, n := range d.Nodes {
			if n.After != nil {
				right = right && reflect.DeepEqual(n.After[:len(n.After)+2][len(n.After):], []string{"spare", ""})
				for k := range n.After {
					n.After[k] = "no"
				}
			}
			d.Nodes[j] = api.Node{}
		}
		got[i] = api.Def{}
	}
	if !right {
		t.Fatal("the definitions were changed")
	}
}

// receivedBy receives an envelope by a hold of a number, and holds what becomes of it to the chapter's words.
func (p *pair) receivedBy(hold int, e api.Envelope, now int) (api.Envelope, api.Errno) {
	p.t.Helper()
	handed := spare(p.defs)
	h := p.holds[hold]
	mark, ops := p.x.Mark(e.From), p.disk.Ops()
	got, why := xshard.Receive(p.x, h[0], handed, e, now)
	untouched(p.t, handed, p.defs)
	want, meant := p.twin.meant(h[1], p.defs, e, now)
	if got != want || why != meant {
		p.t.Fatalf("%+v is answered %+v, %d, want %+v, %d", e, got, why, want, meant)
	}
	p.same()
	if why != api.OK && p.x.Mark(e.From) != mark {
		p.t.Fatal("the mark was", mark, "and is", p.x.Mark(e.From), "behind", why)
	}
	if (why == api.ErrArg || why == api.ErrOwner || why == api.ErrOrder || e.Seq <= mark) && p.disk.Ops() != ops {
		p.t.Fatal("something was done of", e)
	}
	return got, why
}

// received receives an envelope by the last hold.
func (p *pair) received(e api.Envelope) (api.Envelope, api.Errno) {
	p.t.Helper()
	return p.receivedBy(len(p.holds)-1, e, now)
}

// acks: an envelope must be acknowledged up to a number.
func (p *pair) acks(e api.Envelope, seq int) {
	p.t.Helper()
	got, why := p.received(e)
	if want := (api.Envelope{Kind: api.EnvAck, From: e.To, To: e.From, Seq: seq}); why != api.OK || got != want {
		p.t.Fatalf("%+v is answered %+v, %d, want %+v", e, got, why, want)
	}
}

// refuses: an envelope must be refused so.
func (p *pair) refuses(e api.Envelope, want api.Errno) {
	p.t.Helper()
	if got, why := p.received(e); why != want || got != (api.Envelope{}) {
		p.t.Fatalf("%+v is answered %+v, %d, want %d", e, got, why, want)
	}
}

// next is the envelope of a mail that is the next one of a shard.
func (p *pair) next(from int, m api.Mail) api.Envelope {
	return api.Envelope{Kind: api.EnvMail, From: from, To: p.n, Seq: p.x.Mark(from) + 1, Mail: m}
}

// takesEffect: a mail must be acknowledged, and make so many events of its workflow.
func (p *pair) takesEffect(from int, m api.Mail, events int) {
	p.t.Helper()
	was := len(p.x.Events(m.To))
	e := p.next(from, m)
	p.acks(e, e.Seq)
	if got := len(p.x.Events(m.To)) - was; got != events {
		p.t.Fatalf("%+v made %d events, want %d", m, got, events)
	}
}

// isPassedBy: a mail must be acknowledged, and change nothing but the mark, the outboxes having so many envelopes more.
func (p *pair) isPassedBy(from int, m api.Mail, back int) {
	p.t.Helper()
	was, sent := p.content(), p.sent()
	e := p.next(from, m)
	p.acks(e, e.Seq)
	if got := p.content(); got != was {
		p.t.Fatalf("%+v made of %s\n%s", m, was, got)
	}
	if p.x.Mark(from) != e.Seq || p.sent() != sent+back {
		p.t.Fatalf("%+v: the mark is %d, sent were %d, are %d", e, p.x.Mark(from), sent, p.sent())
	}
}

// content is a text of all workflows and tasks.
func (p *pair) content() string {
	text := fmt.Sprint(p.x.Dispatches(), p.x.Alarms(), p.x.Level())
	for flow, state := range p.x.All() {
		text += fmt.Sprintf("\n%s %+v %+v", flow, state, p.x.Events(flow))
	}
	return text
}

// sent is how many envelopes were ever sent.
func (p *pair) sent() int {
	sum := 0
	for to := range shards {
		sum += p.x.Last(to)
	}
	return sum
}

// commits does an input to a workflow, without a mail.
func (p *pair) commits(flow, def string, in api.Input) api.Errno {
	p.t.Helper()
	var why api.Errno
	p.both(func(s *side) {
		was, _ := s.x.Load(flow)
		in.Now = now
		events, state, tasks, e := history.Step(*named(p.defs, def), was, in)
		if e == api.OK {
			_, e = s.x.Commit(s.c, api.Update{Flow: flow, Expect: was.Events, Events: events, State: state, Tasks: tasks})
		}
		why = e
	})
	return why
}

// does must be OK.
func (p *pair) does(flow, def string, in api.Input) {
	p.t.Helper()
	if e := p.commits(flow, def, in); e != api.OK {
		p.t.Fatal(flow, in, e)
	}
}

// starts starts a workflow, without a mail.
func (p *pair) starts(flow, def string) {
	p.t.Helper()
	p.does(flow, def, api.Input{Kind: api.InStart, Name: flow})
}

// status must be a workflow's.
func (p *pair) status(flow string, want int) {
	p.t.Helper()
	if s, _ := p.x.Load(flow); s.Status != want {
		p.t.Fatalf("%s is %+v, want %s", flow, s, history.Words(want))
	}
}

// flowOf is the k-th workflow of a shard.
func flowOf(n, k int) string {
	for i := 0; ; i++ {
		if flow := fmt.Sprint("f", i); ring.Shard(flow, shards) == n {
			if k == 0 {
				return flow
			}
			k--
		}
	}
}

func answers(t testing.TB, got, want api.Errno) {
	t.Helper()
	if got != want {
		t.Fatalf("answered %d, want %d", got, want)
	}
}

// stops is the kind of a trouble that is no fault, but a stop.
const stops = -1

// meets lays a trouble on both disks, behind some operations.
func (p *pair) meets(after, kind int) {
	p.both(func(s *side) {
		if kind == stops {
			s.disk.Stop(after)
			return
		}
		s.disk.Fail(after, kind)
	})
}

// heals: no stop is left on the disks, without a crash.
func (p *pair) heals() {
	p.both(func(s *side) { s.disk.Stop(math.MaxInt) })
}

// out are the envelopes of an outbox, as texts.
func (p *pair) out(to int) []string {
	var list []string
	for _, e := range p.x.Outbox(to) {
		list = append(list, fmt.Sprintf("%d %d %s %s %s", e.Seq, e.Mail.Kind, e.Mail.To, e.Mail.Node, e.Mail.Text))
	}
	return list
}

// outIs ends the test if an outbox has others.
func (p *pair) outIs(to int, want ...api.Mail) {
	p.t.Helper()
	var got []api.Mail
	for _, e := range p.x.Outbox(to) {
		got = append(got, e.Mail)
	}
	if !slices.Equal(got, want) {
		p.t.Fatalf("the outbox to %d has\n%+v\nwant\n%+v", to, got, want)
	}
}
