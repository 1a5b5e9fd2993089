package xshard_test

import (
	"fmt"
	"math/rand"
	"reflect"
	"slices"
	"testing"

	"tiller/api"
	"tiller/history"
	"tiller/ring"
	"tiller/shard"
	"tiller/xshard"
)

// P12.6

// spot names an envelope.
type spot struct{ from, to, seq int }

// town is all shards, and a net between them that loses, doubles and delays.
type town struct {
	t      testing.TB
	r      *rand.Rand
	all    [shards]*pair
	net    []api.Envelope
	sent   map[spot]api.Mail // all that were ever committed at their sources
	left   map[spot]int      // those that have left their outboxes
	marks  [shards][shards]int
	counts map[spot]int // of each how often it was taken at its target
	hubs   []string
	flows  []string
}

// definitions are those of a town: sends to hubs by signals of names of their own, children that end, wait, or are none.
func definitions(hubs []string) []string {
	spray := "workflow spray\n"
	for i, hub := range hubs {
		spray += fmt.Sprintf("n%d send %s g%d\n", i, hub, i)
	}
	return []string{
		"workflow hub\na wait never\n",
		spray,
		"workflow rests\na wait go\n",
		"workflow tells\na send " + hubs[0] + " told\nb send " + hubs[1] + " told\n",
		"workflow asks\nk child tells\nl child rests after k\nm child tells after l\n",
		"workflow both\nk child rests\nl child rests\nm child asks after k\n",
		"workflow lost\nk child rests\nl child nowhere\n",
	}
}

func settle(t testing.TB, seed int64) *town {
	t.Helper()
	w := &town{t: t, r: rand.New(rand.NewSource(seed)), sent: map[spot]api.Mail{}, left: map[spot]int{}, counts: map[spot]int{}}
	for n := range shards {
		w.hubs = append(w.hubs, flowOf(n, 0))
	}
	for n := range shards {
		w.all[n] = lay(t, n, definitions(w.hubs)...)
		w.all[n].starts(w.hubs[n], "hub")
		w.flows = append(w.flows, w.hubs[n])
	}
	return w
}

func (w *town) any() *pair {
	return w.all[w.r.Intn(shards)]
}

// look ends the test if something has become of an envelope that must not.
func (w *town) look() {
	w.t.Helper()
	for from, p := range w.all {
		for to := range shards {
			first := p.x.Last(to) + 1
			for _, e := range p.x.Outbox(to) {
				first = min(first, e.Seq)
				at := spot{from, to, e.Seq}
				if mail, known := w.sent[at]; known && mail != e.Mail || e.From != from || e.To != to {
					w.t.Fatalf("%+v was %+v", e, mail)
				}
				w.sent[at] = e.Mail
			}
			for seq := 1; seq < first; seq++ {
				if w.all[to].x.Mark(from) < seq {
					w.t.Fatal(spot{from, to, seq}, "has left its outbox, and was not taken")
				}
			}
			for seq := first; seq <= p.x.Last(to); seq++ {
				if w.left[spot{from, to, seq}] > 0 {
					w.t.Fatal(spot{from, to, seq}, "has come back")
				}
			}
			for seq := 1; seq < first; seq++ {
				w.left[spot{from, to, seq}] = 1
			}
		}
	}
	for to, p := range w.all {
		for from := range shards {
			mark := p.x.Mark(from)
			if mark < w.marks[to][from] {
				w.t.Fatal("the mark of", from, "at", to, "falls from", w.marks[to][from], "to", mark)
			}
			for seq := w.marks[to][from] + 1; seq <= mark; seq++ {
				w.counts[spot{from, to, seq}]++
			}
			w.marks[to][from] = mark
		}
	}
}

// starts starts a workflow; perhaps it is there already.
func (w *town) starts() {
	flow := fmt.Sprint("f", w.r.Intn(60))
	defs := []string{"spray", "rests", "tells", "asks", "both", "lost"}
	p := w.all[ring.Shard(flow, shards)]
	if p.commits(flow, defs[w.r.Intn(len(defs))], api.Input{Kind: api.InStart, Name: flow}) == api.OK {
		w.flows = append(w.flows, flow)
	}
}

// goes does something to any workflow that goes on: its signal, or its end.
func (w *town) goes() {
	p := w.any()
	flows := p.x.Flows()
	flow := flows[w.r.Intn(len(flows))]
	if slices.Contains(w.hubs, flow) {
		return
	}
	s, _ := p.x.Load(flow)
	in := api.Input{Kind: api.InSignal, Name: "go"}
	if w.r.Intn(4) == 0 {
		in = api.Input{Kind: api.InCancel, Text: "c"}
	}
	p.commits(flow, s.Def, in)
}

// posts sends what waits; at times all of it, so that something comes ahead of its turn.
func (w *town) posts(p *pair) {
	if w.r.Intn(4) == 0 {
		for to := range shards {
			w.net = append(w.net, p.x.Outbox(to)...)
		}
		return
	}
	for e := range xshard.Waiting(p.x, shards) {
		w.net = append(w.net, e)
	}
}

// brings brings something that is under way, any of it.
func (w *town) brings() {
	w.t.Helper()
	if len(w.net) == 0 {
		return
	}
	i := w.r.Intn(len(w.net))
	e := w.net[i]
	if w.r.Intn(4) > 0 { // else it stays, and comes again
		w.net = slices.Delete(w.net, i, i+1)
	}
	if w.r.Intn(6) == 0 { // it is lost
		return
	}
	w.takes(e)
}

// takes receives or collects an envelope, mostly by the last hold.
func (w *town) takes(e api.Envelope) {
	w.t.Helper()
	p := w.all[e.To]
	hold := max(0, len(p.holds)-1-w.r.Intn(5)/4)
	if e.Kind == api.EnvAck {
		many, why := xshard.Collect(p.x, p.holds[hold][0], e)
		if meant, meantWhy := p.twin.x.Acked(p.holds[hold][1], e.From, e.Seq); many != meant || why != meantWhy {
			w.t.Fatal(e, many, why, meant, meantWhy)
		}
		p.same()
		return
	}
	mark := p.x.Mark(e.From)
	ack, why := p.receivedBy(hold, e, now)
	if why != api.OK {
		return
	}
	w.net = append(w.net, ack)
	if p.x.Mark(e.From) == mark {
		return
	}
	if mail, known := w.sent[spot{e.From, e.To, mark + 1}]; !known || mail != e.Mail {
		w.t.Fatalf("%+v was taken, committed was %+v, %t", e, mail, known)
	}
}

// step does anything.
func (w *town) step() {
	w.t.Helper()
	switch w.r.Intn(24) {
	case 0, 1:
		w.starts()
	case 2, 3:
		w.goes()
	case 4, 5, 6, 7:
		w.posts(w.any())
	case 8:
		w.any().meets(w.r.Intn(4), w.r.Intn(3))
	case 9:
		p := w.any()
		p.meets(0, stops) // it heals when its disk crashes, or it is taken
	case 10:
		p := w.any()
		p.heals()
		p.takesAnew()
	case 11:
		w.any().crashes(w.r.Intn(99), w.r.Intn(99), w.r.Intn(99))
	default:
		w.brings()
	}
	w.look()
}

// takesAnew takes the shard, if the disk lets it.
func (p *pair) takesAnew() {
	p.t.Helper()
	was, twin := p.side.c, p.twin.c
	p.both(func(s *side) { s.hold() })
	if p.side.c == nil {
		p.side.c, p.twin.c = was, twin
		return
	}
	p.holds = append(p.holds, [2]*shard.Ctx{p.side.c, p.twin.c})
}

// rest: no trouble any more, all is sent till nothing waits.
func (w *town) rest() {
	w.t.Helper()
	for _, p := range w.all {
		p.crashes()
	}
	w.look()
	for range 1000 {
		var waiting []api.Envelope
		for _, p := range w.all {
			waiting = slices.AppendSeq(waiting, xshard.Waiting(p.x, shards))
		}
		if len(waiting) == 0 {
			return
		}
		for _, e := range waiting {
			p := w.all[e.To]
			ack, why := p.received(e)
			answers(w.t, why, api.OK)
			w.look()
			source := w.all[e.From]
			source.collects(source.c, ack, ack.Seq-e.Seq+1, api.OK) // others behind it may have been taken, too
			w.look()
		}
	}
	w.t.Fatal("it comes to no rest")
}

// kept is how often a hub was told a signal.
func (w *town) kept(n int, name string) int {
	many := 0
	for _, e := range w.all[n].x.Events(w.hubs[n]) {
		if e.Kind == api.Kept && e.Node == name {
			many++
		}
	}
	return many
}

// ends ends the test if the workflows have not seen each mail just once.
func (w *town) ends() {
	w.t.Helper()
	for at, mail := range w.sent {
		if w.counts[at] != 1 {
			w.t.Fatalf("%+v %+v was taken %d times", at, mail, w.counts[at])
		}
	}
	if len(w.counts) != len(w.sent) {
		w.t.Fatal("taken were", len(w.counts), "sent", len(w.sent))
	}
	for n, hub := range w.hubs {
		told, all := map[string]int{}, 0
		for _, mail := range w.sent {
			if mail.Kind == api.MailSignal && mail.To == hub {
				told[mail.Name]++
				all++
			}
		}
		for name, many := range told {
			if got := w.kept(n, name); all <= api.MaxSignals && got != many {
				w.t.Fatalf("%s was told %s %d times, sent were %d", hub, name, got, many)
			}
		}
	}
	for _, p := range w.all {
		for flow, state := range p.x.All() {
			folded, why := history.Fold(*named(p.defs, state.Def), flow, p.x.Events(flow))
			if why != api.OK || !reflect.DeepEqual(fmt.Sprint(folded), fmt.Sprint(state)) {
				w.t.Fatal(flow, state, folded, why)
			}
		}
	}
}

// Whatever is lost, doubled, late, refused, fenced or struck: each mail that was committed is taken once, and leaves its outbox only then.
func TestOnce(t *testing.T) {
	for seed := range 120 {
		w := settle(t, int64(seed))
		for range 160 {
			w.step()
		}
		w.rest()
		w.ends()
	}
}

// Left alone, a parent learns its children's ends, and each child was started once, wherever it is.
func TestParents(t *testing.T) {
	for n := range shards {
		for seed := range 8 {
			w := settle(t, int64(seed))
			f := flowOf(n, 1+seed)
			w.all[n].starts(f, "asks")
			w.rest()
			child := f + "/l"
			p := w.all[ring.Shard(child, shards)]
			p.does(child, "rests", api.Input{Kind: api.InSignal, Name: "go", Text: "r"})
			w.rest()
			w.all[n].status(f, api.Done)
			w.ends()
			if w.kept(0, "told") != 2 || w.kept(1, "told") != 2 {
				t.Fatal(w.kept(0, "told"), w.kept(1, "told"))
			}
		}
	}
}
