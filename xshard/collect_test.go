package xshard_test

import (
	"math"
	"slices"
	"testing"

	"tiller/api"
	"tiller/exec"
	"tiller/shard"
	"tiller/xshard"
)

// P12.5

// collects must answer so many, and that; the twin has done what the chapter's words say.
func (p *pair) collects(c *shard.Ctx, e api.Envelope, want int, wantWhy api.Errno) {
	p.t.Helper()
	was, ops := p.out(e.From), p.disk.Ops()
	many, why := xshard.Collect(p.x, c, e)
	if many != want || why != wantWhy {
		p.t.Fatalf("%+v collects %d, %d, want %d, %d", e, many, why, want, wantWhy)
	}
	meant, meantWhy := 0, api.ErrArg
	if e.Kind == api.EnvAck && e.To == c.Shard() {
		meant, meantWhy = p.twin.x.Acked(p.twinOf(c), e.From, e.Seq)
	}
	if many != meant || why != meantWhy {
		p.t.Fatalf("%+v collects %d, %d, by the words %d, %d", e, many, why, meant, meantWhy)
	}
	p.same()
	if want == 0 && (why == api.OK || why == api.ErrArg || why == api.ErrOwner) && p.disk.Ops() != ops {
		p.t.Fatal("something was done of", e)
	}
	if left := p.out(e.From); !slices.Equal(left, was[want:]) {
		p.t.Fatal("to", e.From, "there are", left, "were", was)
	}
}

// twinOf is the twin of a hold; of one that has none, it itself.
func (p *pair) twinOf(c *shard.Ctx) *shard.Ctx {
	for _, h := range p.holds {
		if h[0] == c {
			return h[1]
		}
	}
	return c
}

func ackOf(from, to, seq int) api.Envelope {
	return api.Envelope{Kind: api.EnvAck, From: from, To: to, Seq: seq}
}

func TestCollect(t *testing.T) {
	p := sender(t)
	c := p.c
	for _, seq := range []int{0, -1, math.MinInt} { // of none
		p.collects(c, ackOf(1, 0, seq), 0, api.OK)
	}
	for _, seq := range []int{3, 4, math.MaxInt} { // of more than were sent
		p.collects(c, ackOf(1, 0, seq), 0, api.ErrArg)
	}
	p.collects(c, ackOf(1, 0, 1), 1, api.OK)
	p.collects(c, ackOf(1, 0, 1), 0, api.OK) // again
	p.collects(c, ackOf(1, 0, 0), 0, api.OK) // a late one
	p.collects(c, ackOf(1, 0, 3), 0, api.ErrArg)
	p.collects(c, ackOf(1, 0, 2), 1, api.OK)
	p.collects(c, ackOf(1, 0, 1), 0, api.OK)
	p.collects(c, ackOf(2, 0, 0), 0, api.OK)
	p.collects(c, ackOf(2, 0, 1), 0, api.ErrArg)
	p.collects(c, ackOf(0, 0, 1), 1, api.OK) // the own shard
	p.collects(c, ackOf(3, 0, 1), 1, api.OK)
	if p.sent() != 4 || p.x.Last(1) != 2 {
		t.Fatal(p.sent())
	}
}

func TestCollectOfAll(t *testing.T) {
	p := sender(t)
	p.collects(p.c, ackOf(1, 0, 2), 2, api.OK)
	p.collects(p.c, ackOf(1, 0, 2), 0, api.OK)
}

// What the acknowledgement has beside its numbers is nothing to it.
func TestCollectLooksAtNoMail(t *testing.T) {
	p := sender(t)
	e := ackOf(1, 0, 1)
	e.Mail = api.Mail{Kind: 9, To: "?", Text: "\xff"}
	p.collects(p.c, e, 1, api.OK)
}

func TestCollectOfWhatIsNone(t *testing.T) {
	p := sender(t)
	for _, kind := range []int{math.MinInt, -1, 0, api.EnvMail, 3, math.MaxInt} {
		e := ackOf(1, 0, 1)
		e.Kind = kind
		p.collects(p.c, e, 0, api.ErrArg)
	}
	for _, to := range append(notShards(), 1, 2, 3) {
		p.collects(p.c, ackOf(1, to, 1), 0, api.ErrArg)
	}
	for _, from := range notShards() {
		for _, seq := range []int{0, 1} {
			p.collects(p.c, ackOf(from, 0, seq), 0, api.ErrArg)
		}
	}
	for _, e := range []api.Envelope{ackOf(1, 0, 1), ackOf(1, 0, 0), {}} {
		for i, x := range []*exec.Exec{nil, p.x, nil} {
			c := []*shard.Ctx{p.c, nil, nil}[i]
			if many, why := xshard.Collect(x, c, e); many != 0 || why != api.ErrArg {
				t.Fatal(i, many, why)
			}
		}
	}
}

// A hold of another shard, whose acknowledgement it would be.
func TestCollectByAnothersHold(t *testing.T) {
	p := sender(t)
	other := newSide(2)
	p.collects(other.c, ackOf(1, 2, 1), 0, api.ErrArg)
	p.collects(other.c, ackOf(1, 0, 1), 0, api.ErrArg)
	other.c.Release()
	p.collects(other.c, ackOf(1, 2, 1), 0, api.ErrArg)
}

func TestCollectByClosedHolds(t *testing.T) {
	p := sender(t)
	first := p.c
	p.takes()
	p.collects(first, ackOf(1, 0, 0), 0, api.OK) // it commits nothing, so the hold learns nothing
	p.collects(first, ackOf(1, 0, 3), 0, api.ErrArg)
	if !first.Open() {
		t.Fatal("it is closed")
	}
	p.collects(first, ackOf(1, 0, 1), 0, api.ErrFence)
	for _, seq := range []int{0, 1, 3} {
		p.collects(first, ackOf(1, 0, seq), 0, api.ErrOwner)
	}
	p.collects(first, ackOf(7, 0, 1), 0, api.ErrOwner)
	p.collects(first, ackOf(1, 1, 1), 0, api.ErrArg)
	p.collects(first, api.Envelope{Kind: api.EnvMail, From: 1, Seq: 1}, 0, api.ErrArg)
	p.collects(p.c, ackOf(1, 0, 1), 1, api.OK)
	p.both(func(s *side) { s.c.Release() })
	p.collects(p.c, ackOf(1, 0, 2), 0, api.ErrOwner)
}

// What Acked refuses is the answer, and the envelopes stay; then they are collected.
func TestCollectInTrouble(t *testing.T) {
	for kind := range 3 {
		p := sender(t)
		p.meets(0, kind)
		p.collects(p.c, ackOf(1, 0, 1), 0, api.ErrIO)
		p.collects(p.c, ackOf(1, 0, 1), 1, api.OK)
	}
	p := sender(t)
	p.meets(0, stops)
	p.collects(p.c, ackOf(1, 0, 1), 0, api.ErrDead)
	p.collects(p.c, ackOf(1, 0, 0), 0, api.OK)
	p.heals()
	p.collects(p.c, ackOf(1, 0, 1), 1, api.OK)
}

// What was collected is gone behind a crash, too; what was refused is there, or gone as if it had not been refused.
func TestCollectAndCrash(t *testing.T) {
	for cut := range 40 {
		p := sender(t)
		p.collects(p.c, ackOf(1, 0, 1), 1, api.OK)
		p.crashes(cut, cut)
		if e, some := xshard.Next(p.x, 1); !some || e.Seq != 2 {
			t.Fatal(e, some)
		}
		p.side.disk.Stop(cut % 4)
		_, why := xshard.Collect(p.x, p.c, ackOf(1, 0, 2))
		p.side.crash(cut, cut)
		if e, some := xshard.Next(p.x, 1); some && (why == api.OK || e.Seq != 2) {
			t.Fatal(e, why)
		}
		if p.x.Last(1) != 2 {
			t.Fatal(p.x.Last(1))
		}
	}
}
