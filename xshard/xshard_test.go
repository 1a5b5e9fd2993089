package xshard_test

import (
	"fmt"
	"math"
	"slices"
	"testing"

	"tiller/api"
	"tiller/xshard"
)

// P12.1

// sender is shard 0 with envelopes: two to shard 1, none to 2, one to 3 and one to itself.
func sender(t testing.TB) *pair {
	t.Helper()
	send := func(n, k int) string { return flowOf(n, k) + " s\n" }
	p := lay(t, 0, "workflow w\na send "+send(1, 0)+"b send "+send(3, 0)+"c send "+send(1, 1)+"d send "+send(0, 1))
	p.starts(flowOf(0, 0), "w")
	return p
}

// notShards are numbers that are no shard's.
func notShards() []int {
	return []int{-1, shards, shards + 1, api.MaxShards - 1, api.MaxShards, 1 << 32, math.MaxInt, math.MinInt}
}

func TestNext(t *testing.T) {
	p := sender(t)
	for to, many := range []int{1, 2, 0, 1} {
		for seq := 1; seq <= many; seq++ {
			e, some := xshard.Next(p.x, to)
			if !some || e != p.x.Outbox(to)[0] || e.Kind != api.EnvMail || e.From != 0 || e.To != to || e.Seq != seq || e.Mail.From != flowOf(0, 0) {
				t.Fatal(to, e, some)
			}
			if again, _ := xshard.Next(p.x, to); again != e {
				t.Fatal("it stays till it is collected", again)
			}
			if many, why := p.x.Acked(p.c, to, seq); many != 1 || why != api.OK {
				t.Fatal(many, why)
			}
		}
		if e, some := xshard.Next(p.x, to); some || e != (api.Envelope{}) {
			t.Fatal(to, e, some)
		}
	}
}

func TestNextOfWhatIsNone(t *testing.T) {
	p := sender(t)
	for _, to := range notShards() {
		if e, some := xshard.Next(p.x, to); some || e != (api.Envelope{}) {
			t.Fatal(to, e, some)
		}
	}
	for to := range shards {
		if e, some := xshard.Next(nil, to); some || e != (api.Envelope{}) {
			t.Fatal(to, e, some)
		}
	}
}

func TestWaiting(t *testing.T) {
	p := sender(t)
	var all []api.Envelope
	for to := range shards {
		if e, some := xshard.Next(p.x, to); some {
			all = append(all, e)
		}
	}
	for _, c := range []struct{ shards, told int }{{math.MinInt, 0}, {-1, 0}, {0, 0}, {1, 1}, {2, 2}, {3, 2}, {4, 3}, {5, 3}, {16, 3}, {17, 3}, {1 << 40, 3}, {math.MaxInt, 3}} {
		row := xshard.Waiting(p.x, c.shards)
		for range 2 { // it may be ranged over again
			if got := slices.Collect(row); !slices.Equal(got, all[:c.told]) {
				t.Fatalf("of %d shards are told %+v, want %+v", c.shards, got, all[:c.told])
			}
		}
		for most := range c.told { // and stopped anywhere
			var got []api.Envelope
			for e := range row {
				if got = append(got, e); len(got) > most {
					break
				}
			}
			if !slices.Equal(got, all[:most+1]) {
				t.Fatal(got)
			}
		}
	}
}

func TestWaitingForNothing(t *testing.T) {
	p := lay(t, 0)
	for e := range xshard.Waiting(p.x, shards) {
		t.Fatal(e)
	}
	for e := range xshard.Waiting(nil, shards) {
		t.Fatal(e)
	}
	for e := range xshard.Waiting(nil, math.MaxInt) {
		t.Fatal(e)
	}
}

// What a ranging tells is what there is when it is ranged over, not when Waiting was called.
func TestWaitingAsItStands(t *testing.T) {
	p := sender(t)
	row := xshard.Waiting(p.x, shards)
	for want := 3; want >= 0; want-- {
		told := slices.Collect(row)
		if len(told) != want {
			t.Fatal(told)
		}
		if want > 0 {
			last := told[want-1]
			if _, why := p.x.Acked(p.c, last.To, p.x.Last(last.To)); why != api.OK {
				t.Fatal(why)
			}
		}
	}
}

// All that waits can be collected while it is told.
func TestCollectWhileWaiting(t *testing.T) {
	p := sender(t)
	told := ""
	for range 3 {
		for e := range xshard.Waiting(p.x, shards) {
			told += fmt.Sprint(e.To, e.Seq, " ")
			if many, why := xshard.Collect(p.x, p.c, api.Envelope{Kind: api.EnvAck, From: e.To, To: 0, Seq: e.Seq}); many != 1 || why != api.OK {
				t.Fatal(many, why)
			}
		}
	}
	if told != "0 1 1 1 3 1 1 2 " {
		t.Fatal(told)
	}
}

// P12.2

func TestPlace(t *testing.T) {
	p := lay(t, 1)
	for mark := range 4 {
		for from := range shards {
			if from == 3 && mark > 0 { // that one has passed nothing
				continue
			}
			for seq, want := range map[int]int{math.MinInt: 0, -1: 0, 0: 0, mark - 1: 1, mark: 1, mark + 1: 2, mark + 2: 3, mark + 3: 3, 1 << 32: 3, api.MaxNumber: 3, math.MaxInt: 3} {
				if seq < 1 {
					want = 0
				}
				e := api.Envelope{Kind: api.EnvMail, From: from, To: 1, Seq: seq}
				if got := xshard.Place(p.x, e); got != want {
					t.Fatalf("at the mark %d, %+v is at %d, want %d", mark, e, got, want)
				}
			}
		}
		for from := range 3 {
			answers(t, p.x.Pass(p.c, from, mark+1, nil), api.OK)
		}
	}
}

// The marks are each shard's own.
func TestPlaceByFrom(t *testing.T) {
	p := lay(t, 1)
	for from := range shards {
		for seq := 1; seq <= from; seq++ {
			answers(t, p.x.Pass(p.c, from, seq, nil), api.OK)
		}
	}
	for from := range shards {
		for seq := 1; seq <= 6; seq++ {
			want := 3
			switch {
			case seq <= from:
				want = 1
			case seq == from+1:
				want = 2
			}
			if got := xshard.Place(p.x, api.Envelope{Kind: api.EnvMail, From: from, Seq: seq}); got != want {
				t.Fatal(from, seq, got)
			}
		}
	}
}

// To and the mail are nothing to it.
func TestPlaceGoesByFromAndSeq(t *testing.T) {
	p := lay(t, 1)
	answers(t, p.x.Pass(p.c, 2, 1, nil), api.OK)
	for _, to := range []int{-1, 0, 1, 2, 3, 16, math.MaxInt} {
		for seq := 1; seq <= 3; seq++ {
			if got := xshard.Place(p.x, api.Envelope{Kind: api.EnvMail, From: 2, To: to, Seq: seq, Mail: api.Mail{Kind: 9, To: "?"}}); got != seq {
				t.Fatal(to, seq, got)
			}
		}
	}
}

func TestPlaceOfWhatIsNone(t *testing.T) {
	p := lay(t, 1)
	answers(t, p.x.Pass(p.c, 2, 1, nil), api.OK)
	for seq := range 4 {
		for _, kind := range []int{math.MinInt, -1, 0, api.EnvAck, 3, math.MaxInt} {
			if got := xshard.Place(p.x, api.Envelope{Kind: kind, From: 2, Seq: seq}); got != 0 {
				t.Fatal(kind, seq, got)
			}
		}
		for _, from := range []int{math.MinInt, -1, 16, 17, math.MaxInt} {
			if got := xshard.Place(p.x, api.Envelope{Kind: api.EnvMail, From: from, Seq: seq}); got != 0 {
				t.Fatal(from, seq, got)
			}
		}
		if got := xshard.Place(nil, api.Envelope{Kind: api.EnvMail, From: 2, Seq: seq}); got != 0 {
			t.Fatal(seq, got)
		}
	}
	for _, from := range []int{4, 15} { // a shard that this cluster has not has the mark 0
		for seq, want := range []int{0, 2, 3} {
			if got := xshard.Place(p.x, api.Envelope{Kind: api.EnvMail, From: from, Seq: seq}); got != want {
				t.Fatal(from, seq, got)
			}
		}
	}
}

// P12.3

// mails are some of a kind: of each field one that is there, or not.
func mails(kind int) []api.Mail {
	list := []api.Mail{{Kind: kind}, {Kind: kind, To: "t", From: "f", Node: "n", Name: "a", Text: "x", Status: 3}}
	return append(list,
		api.Mail{Kind: kind, To: "t"}, api.Mail{Kind: kind, From: "f"}, api.Mail{Kind: kind, Node: "n"}, api.Mail{Kind: kind, Name: "a"},
		api.Mail{Kind: kind, Text: "x"}, api.Mail{Kind: kind, Status: 3}, api.Mail{Kind: kind, Text: "\xff", Name: " ", Status: math.MinInt})
}

// kinds are those of mails, and others.
func kinds() []int {
	return []int{math.MinInt, -1, 0, api.MailStart, api.MailChild, api.MailSignal, api.MailCancel, 5, 6, math.MaxInt}
}

func TestInput(t *testing.T) {
	for _, kind := range kinds() {
		for _, m := range mails(kind) {
			for _, now := range []int{0, 1, 77, api.MaxTime, math.MaxInt, -1, math.MinInt} {
				want, is := inputs(m, now)[kind]
				if got, ok := xshard.Input(m, now); got != want || ok != is {
					t.Fatalf("%+v at %d is %+v, %t, want %+v, %t", m, now, got, ok, want, is)
				}
			}
		}
	}
}

func TestRefusal(t *testing.T) {
	for _, kind := range kinds() {
		for _, m := range mails(kind) {
			for _, why := range []string{"", "none", "full", "\xff\x00"} {
				want := api.Mail{}
				if kind == api.MailStart {
					want = api.Mail{Kind: api.MailChild, To: m.From, From: m.To, Node: m.Node, Status: api.Broken, Text: why}
				}
				if got, is := xshard.Refusal(m, why); got != want || is != (kind == api.MailStart) {
					t.Fatalf("%+v is %+v, %t, want %+v", m, got, is, want)
				}
			}
		}
	}
}
