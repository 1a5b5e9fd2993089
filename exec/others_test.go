package exec_test

import (
	"fmt"
	"math"
	"testing"

	"tiller/api"
	"tiller/codec"
	"tiller/shard"
)

// P10.4

// call is one of the other calls: what it answers.
type call func(p *site, c *shard.Ctx) (int, api.Errno)

func advance(level api.ID) call {
	return func(p *site, c *shard.Ctx) (int, api.Errno) { return p.x.Advance(c, level) }
}

func drop(id api.ID) call {
	return func(p *site, c *shard.Ctx) (int, api.Errno) { return 0, p.x.Drop(c, id) }
}

func ack(to, seq int) call {
	return func(p *site, c *shard.Ctx) (int, api.Errno) { return p.x.Acked(c, to, seq) }
}

func pass(from, seq int, back ...api.Mail) call {
	return func(p *site, c *shard.Ctx) (int, api.Errno) { return 0, p.x.Pass(c, from, seq, back) }
}

// refusesCall ends the test if a call is not refused so, or changes anything.
func (p *site) refusesCall(name string, do call, c *shard.Ctx, want api.Errno) {
	p.t.Helper()
	was := p.stands()
	if n, e := do(p, c); n != 0 || e != want {
		p.t.Fatalf("%s: answered %d, %d, want %d", name, n, e, want)
	}
	p.still(was)
}

// furnished is a shard that has two of everything: dispatches 1+1i and 1+3i, alarms 1+2i and 1+4i, envelopes 1 and 2 to shard 2, a mark of 2 of shard 3.
func furnished(t *testing.T) *site {
	t.Helper()
	p := lay(t)
	f, two := flowOf(own, 0), flowOf(2, 0)
	p.commits(of(asks(grows(f, 0, 1, dispatch("a"), alarm("b", 9), message(two, "x")), "r", "a"), 3, 1))
	p.commits(of(grows(f, 1, 1, dispatch("c"), alarm("d", 5), message(two, "y")), 3, 2))
	return p
}

// taken are calls of each kind that are taken where it is furnished, and commit something.
func taken() map[string]call {
	return map[string]call{
		"Advance": advance(1 + 1i), "Advance over nothing": advance(9), "Drop": drop(1 + 2i), "Acked": ack(2, 1), "Pass": pass(3, 3), "Pass with mails": pass(3, 3, mail("f", "x"), mail("g", "y")),
	}
}

// idle are calls that are OK, and commit nothing.
func idle() map[string]call {
	return map[string]call{"Advance": advance(0), "Advance to no ID": advance(-1), "Acked 0": ack(2, 0), "Acked of an empty outbox": ack(0, 0)}
}

// wrong are calls that are refused by what they ask for.
func wrong() map[string]call {
	return map[string]call{"Drop of none": drop(1 + 1i), "Acked too many": ack(2, 3), "Acked of no shard": ack(4, 0), "Pass of no shard": pass(-1, 1), "Pass out of order": pass(3, 4), "Pass of no mail": pass(3, 3, api.Mail{})}
}

// What holds refuse stands ahead of all else.
func TestOthersByWrongHolds(t *testing.T) {
	for _, calls := range []map[string]call{taken(), idle(), wrong()} {
		for name, do := range calls {
			p := furnished(t)
			p.refusesCall(name, do, nil, api.ErrArg)
			other := p.take(2)
			p.refusesCall(name, do, other, api.ErrArg)
			other.Release()
			p.refusesCall(name, do, other, api.ErrArg)
			p.hold()
			p.c.Release()
			p.refusesCall(name, do, p.c, api.ErrOwner)
		}
	}
}

// A hold that is no more the last one: what would commit something is fenced, and the hold closes; what would not is as ever.
func TestOthersByAnEarlierHold(t *testing.T) {
	for name, do := range taken() {
		p := furnished(t)
		old := p.c
		p.hold()
		p.refusesCall(name, do, old, api.ErrFence)
		if old.Open() || old.Made() != 4 {
			t.Fatal(name, old.Open(), old.Made())
		}
		p.refusesCall(name, do, old, api.ErrOwner)
		if _, e := do(p, p.c); e != api.OK {
			t.Fatal(name, e)
		}
	}
	for name, do := range idle() {
		p := furnished(t)
		old := p.c
		p.hold()
		p.refusesCall(name, do, old, api.OK)
		if !old.Open() {
			t.Fatal(name)
		}
	}
}

func TestOthersThatCommitNothing(t *testing.T) {
	p := furnished(t)
	p.disk.Stop(0) // they don't ask the disk either
	for name, do := range idle() {
		p.refusesCall(name, do, p.c, api.OK)
	}
}

func TestAdvance(t *testing.T) {
	p := lay(t)
	f := flowOf(own, 0)
	p.commits(grows(f, 0, 1, dispatch("a"), alarm("b", 1), dispatch("c"), dispatch("d")))
	p.hold()
	p.commits(grows(f, 1, 1, dispatch("e"), dispatch("f"), dispatch("g")))
	for _, c := range []struct {
		level api.ID
		want  int
	}{
		{0, 0}, {1, 0}, {1, 0}, {1 + 1i, 1}, {1 + 1i, 0}, // to its own, and to where it is
		{1 + 2i, 0}, // to an alarm's
		{1 + 1i, 0}, {1, 0}, {0, 0},
		{1 + 3i, 1},
		{2, 1}, // of a range all, of the next none
		{1 + 9i, 0},
		{2 + 2i, 2}, {2 + 1i, 0},
		{2 + 2i, 0},
		{7 + 9i, 1}, {7 + 9i, 0}, {7 + 8i, 0}, {6 + 10i, 0}, {8, 0},
	} {
		p.advances(c.level, c.want)
	}
	if p.x.Level() != 8 || len(p.x.Alarms()) != 1 {
		t.Fatal(p.x.Level())
	}
	p.stored()
}

// What is no ID is above no level.
func TestAdvanceToWhatIsNoID(t *testing.T) {
	p := furnished(t)
	nan, inf := math.NaN(), math.Inf(1)
	nought := math.Copysign(0, -1)
	wrong := []api.ID{-1, -1i, 5 - 1i, 1.5, 1 + 1.5i, api.MaxNumber + 1, 1 + (api.MaxNumber+1)*1i}
	for _, part := range []float64{nan, inf, -inf, nought, 1e300} {
		wrong = append(wrong, api.ID(complex(part, 1)), api.ID(complex(9, part)))
	}
	for range 2 {
		for _, level := range wrong {
			p.advances(level, 0)
		}
		if got := p.x.Dispatches(); len(got) != 2 {
			t.Fatal(got)
		}
		p.advances(1, 0)
	}
	p.advances(api.MaxNumber+api.MaxNumber*1i, 2)
	if p.x.Level() != api.MaxNumber+api.MaxNumber*1i {
		t.Fatal(p.x.Level())
	}
	p.stored()
}

// A level may be above IDs that are still to come: their dispatches are there all the same, and go by a level that is greater yet.
func TestDispatchesBelowTheLevel(t *testing.T) {
	p := furnished(t)
	f := flowOf(own, 0)
	p.advances(5+5i, 2)
	p.commits(grows(f, 2, 1, dispatch("e"), dispatch("f")))
	if got := p.x.Dispatches(); len(got) != 2 || got[0].ID != 1+5i || got[1].ID != 1+6i {
		t.Fatal(got)
	}
	p.advances(1+5i, 0)
	p.advances(5+5i, 0)
	p.commits(grows(f, 3, 1, dispatch("g")))
	p.hold()
	p.commits(grows(f, 4, 1, dispatch("h")))
	p.advances(5+6i, 4)
	p.commits(grows(f, 5, 1, dispatch("i")))
	p.stored()
	p.advances(6, 1)
	p.stored()
}

func TestDrop(t *testing.T) {
	p := lay(t)
	f := flowOf(own, 0)
	p.commits(grows(f, 0, 1, alarm("a", 5), dispatch("b"), alarm("c", 5), alarm("d", 3), message(f, "x")))
	p.hold()
	p.commits(grows(f, 1, 1, alarm("e", 5)))
	none := func() {
		t.Helper()
		for _, id := range []api.ID{0, 1, 2, 1 + 2i, 1 + 5i, 2 + 2i, 3 + 1i, -1, 0.5 + 1i, 1 + 1.5i, -1i, api.ID(complex(math.NaN(), 1)), api.ID(complex(math.Inf(1), 1)), api.MaxNumber + 1} {
			p.refusesCall(fmt.Sprint(id), drop(id), p.c, api.ErrNone)
		}
	}
	none()
	for _, id := range []api.ID{1 + 3i, 2 + 1i, 1 + 1i, 1 + 4i} {
		p.drops(id)
		p.refusesCall("again", drop(id), p.c, api.ErrNone)
		none()
	}
	if len(p.x.Alarms()) != 0 || len(p.x.Dispatches()) != 1 {
		t.Fatal(p.x.Alarms())
	}
	p.stored()
}

func TestAcked(t *testing.T) {
	p := lay(t)
	f := flowOf(own, 0)
	var tasks []api.Task
	for i := range 300 { // more than one byte of numbers
		tasks = append(tasks, message(flowOf(2, 0), fmt.Sprint(i)))
	}
	p.commits(grows(f, 0, 1, append(tasks, message(f, "own"), message(flowOf(0, 0), "none"))...))
	wrong := func() {
		t.Helper()
		for _, c := range [][2]int{{-1, 0}, {4, 0}, {16, 0}, {-1, -1}, {4, 1}, {math.MaxInt, 0}, {math.MinInt, 0}, {2, 301}, {2, math.MaxInt}, {own, 2}, {0, 2}, {3, 1}} {
			p.refusesCall(fmt.Sprint(c), ack(c[0], c[1]), p.c, api.ErrArg)
		}
	}
	wrong()
	for _, c := range [][3]int{
		{2, 0, 0}, {2, -1, 0}, {2, math.MinInt, 0}, {2, 1, 1}, {2, 1, 0}, {2, 0, 0}, {2, 5, 4}, {2, 4, 0}, {2, 255, 250}, {2, 256, 1}, {2, 257, 1}, {2, 299, 42}, {2, 300, 1}, {2, 300, 0}, {2, 17, 0},
		{own, 1, 1}, {3, 0, 0}, {3, -7, 0}, {0, 1, 1},
	} {
		p.acks(c[0], c[1], c[2])
		wrong()
	}
	if p.x.Last(2) != 300 || len(p.x.Outbox(2)) != 0 {
		t.Fatal(p.x.Last(2))
	}
	p.commits(grows(f, 1, 1, message(flowOf(2, 0), "again"), message(f, "own")))
	if l := p.x.Outbox(2); len(l) != 1 || l[0].Seq != 301 || p.x.Outbox(own)[0].Seq != 2 {
		t.Fatal(l)
	}
	p.stored()
}

func TestPass(t *testing.T) {
	p := furnished(t)
	f, two := flowOf(own, 0), flowOf(2, 0)
	wrong := func(mark int) {
		t.Helper()
		for _, from := range []int{-1, 4, 16, math.MaxInt, math.MinInt} {
			p.refusesCall("no shard", pass(from, 1), p.c, api.ErrArg)
			p.refusesCall("no shard", pass(from, 5, api.Mail{}), p.c, api.ErrArg)
		}
		for _, seq := range []int{mark, mark - 1, mark + 2, 0, -1, math.MaxInt, math.MinInt} {
			p.refusesCall(fmt.Sprint("Seq ", seq), pass(3, seq), p.c, api.ErrOrder)
			p.refusesCall(fmt.Sprint("Seq ", seq), pass(3, seq, mail("a b", "")), p.c, api.ErrOrder)
		}
		badStatus, badKind, none := mail("f", ""), mail("f", ""), mail("f", "")
		badStatus.Status, badKind.Kind, none.Kind = 5, 5, 0
		for _, m := range []api.Mail{{}, badStatus, badKind, none, mail("", ""), mail("a b", ""), mail(text(257), ""), mail("f", text(65001)), mail("f", text(api.MaxRecord+1))} {
			p.refusesCall("no mail", pass(3, mark+1, m), p.c, api.ErrForm)
			p.refusesCall("no mail", pass(3, mark+1, mail("f", "x"), m), p.c, api.ErrForm)
		}
	}
	wrong(2)
	p.passes(3, 3)
	wrong(3)
	p.passes(3, 4, mail(two, "z"))
	if l := p.x.Outbox(2); len(l) != 3 || l[2] != (api.Envelope{Kind: api.EnvMail, From: own, To: 2, Seq: 3, Mail: mail(two, "z")}) {
		t.Fatal(l)
	}
	p.passes(0, 1, mail(f, "1"), mail(two, "2"), mail(f, "3"), mail(flowOf(3, 0), "4"))
	p.passes(own, 1, mail(sized(0, 256, ""), "5"))
	p.commits(of(grows(f, 2, 1), 3, 5))
	p.passes(3, 6)
	wrong(6)
	if p.x.Last(2) != 4 || p.x.Last(own) != 2 || p.x.Last(3) != 1 || p.x.Last(0) != 1 {
		t.Fatal(p.x.Last(0), p.x.Last(1), p.x.Last(2), p.x.Last(3))
	}
	p.stored()
}

// Mails may have 65000 bytes together, each as an envelope whose numbers are 0.
func TestPassOf65000Bytes(t *testing.T) {
	for _, many := range []int{1, 2, 30} {
		p := furnished(t)
		var back []api.Mail
		sum := 0
		for i := range many {
			back = append(back, mail(flowOf(i%shards, 0), text(65000/many-100)))
		}
		weigh := func() int {
			sum = 0
			for _, m := range back {
				raw, _ := codec.Envelope(api.Envelope{Kind: api.EnvMail, Mail: m})
				sum += len(raw)
			}
			return sum
		}
		back[0].Text += text(65001 - weigh())
		back[0].Text = back[0].Text[:len(back[0].Text)-(weigh()-65001)]
		if weigh() != 65001 {
			t.Fatal(sum)
		}
		p.refusesCall("too much", pass(3, 3, back...), p.c, api.ErrForm)
		back[0].Text = back[0].Text[1:]
		p.passes(3, 3, back...)
		p.stored()
	}
}

// As many mails as 65000 bytes have room for.
func TestPassOfManyMails(t *testing.T) {
	p := lay(t)
	back := make([]api.Mail, 65000/15)
	for i := range back {
		back[i] = api.Mail{Kind: api.MailCancel, To: string(rune('a' + i%26))}
	}
	answers(t, p.x.Pass(p.c, 0, 1, append(back, back[0])), api.ErrForm)
	answers(t, p.x.Pass(p.c, 0, 1, back), api.OK)
	sum := 0
	for to := range shards {
		sum += len(p.x.Outbox(to))
	}
	if sum != len(back) || p.x.Mark(0) != 1 {
		t.Fatal(sum)
	}
}

// More than a batch can take away.

// lean is a workflow's update with so many tasks of the least size.
func lean(name string, was, many int, task api.Task) api.Update {
	u := api.Update{Flow: name, Expect: was, Events: []api.Event{{Kind: api.Sent}}, State: api.State{Events: was + 1}}
	for range many {
		u.Tasks = append(u.Tasks, task)
	}
	return u
}

func TestAdvanceOverVeryManyDispatches(t *testing.T) {
	p := lay(t)
	f := flowOf(own, 0)
	add := func(at int) {
		t.Helper()
		_, e := p.x.Commit(p.c, lean(f, at, 7000, api.Task{Kind: api.Dispatch}))
		answers(t, e, api.OK)
	}
	moves := func(level api.ID, want, left int, first api.ID) {
		t.Helper()
		n, e := p.x.Advance(p.c, level)
		answers(t, e, api.OK)
		list := p.x.Dispatches()
		if n != want || p.x.Level() != level || len(list) != left || left > 0 && list[0].ID != first {
			t.Fatalf("Advance(%v) is %d, want %d; %d are left, want %d", level, n, want, len(list), left)
		}
		if n, e := p.x.Advance(p.c, level); n != 0 || e != api.OK {
			t.Fatal(n, e)
		}
	}
	bare := p.store.Len()
	for at := range 9 {
		add(at)
	}
	moves(1+60000i, 60000, 3000, 1+60001i)
	add(9)
	moves(1+60001i, 1, 9999, 1+60002i)
	p.open()
	if list := p.x.Dispatches(); len(list) != 9999 || list[0].ID != 1+60002i || list[9998].ID != 1+70000i {
		t.Fatal(len(list))
	}
	p.hold()
	moves(1+70005i, 9999, 0, 0)
	for i := range 6 { // what no batch had room for is taken away by and by
		add(10 + i)
		moves(api.ID(complex(float64(3+i), 0)), 7000, 0, 0)
	}
	if many := p.store.Len() - bare; many > 30 {
		t.Fatal(many, "keys are left")
	}
}

func TestAckedOfVeryManyEnvelopes(t *testing.T) {
	p := lay(t)
	f := flowOf(own, 0)
	add := func(at int) {
		t.Helper()
		_, e := p.x.Commit(p.c, lean(f, at, 3400, api.Task{Kind: api.Message, Mail: api.Mail{Kind: api.MailCancel, To: flowOf(2, 0)}}))
		answers(t, e, api.OK)
	}
	gone := func(seq, want, left int) {
		t.Helper()
		for _, want := range []int{want, 0} {
			n, e := p.x.Acked(p.c, 2, seq)
			answers(t, e, api.OK)
			if list := p.x.Outbox(2); n != want || len(list) != left || left > 0 && list[0].Seq != seq+1 {
				t.Fatalf("Acked up to %d is %d, want %d; %d are left, want %d", seq, n, want, len(list), left)
			}
		}
	}
	bare := p.store.Len()
	for at := range 20 {
		add(at)
	}
	gone(60000, 60000, 8000)
	p.open()
	p.hold()
	gone(60001, 1, 7999)
	gone(60001, 0, 7999)
	gone(68000, 7999, 0)
	for i := range 4 {
		add(20 + i)
		gone(p.x.Last(2), 3400, 0)
	}
	if many := p.store.Len() - bare; many > 40 || p.x.Last(2) != 81600 {
		t.Fatal(many, "keys are left")
	}
}
