package exec_test

import (
	"fmt"
	"math"
	"reflect"
	"slices"
	"strings"
	"testing"
	"unsafe"

	"tiller/api"
	"tiller/codec"
	"tiller/shard"
)

// P10.3: the refusals.

// try is a Commit that may go wrong in several ways.
type try struct {
	c *shard.Ctx
	u api.Update
}

// fault is a way in which it goes wrong.
type fault struct {
	name string
	rank int // of two, the one of the lesser rank is told
	e    api.Errno
	make func(p *site, y *try)
}

// The ranks, in the chapter's order.
const (
	ofHold = iota
	ofClosed
	ofName
	ofOrder
	ofArgument
	ofRoom
	ofForm
)

// closed is a hold of the shard that was given back.
func (p *site) closed() *shard.Ctx {
	c := p.take(own)
	c.Release()
	p.hold()
	return c
}

func text(bytes int) string { return strings.Repeat("x", bytes) }

// faults are all ways; each spoils what is right, of a workflow that has some events, or of a new one.
func faults() []fault {
	var list []fault
	add := func(name string, rank int, e api.Errno, make func(p *site, y *try)) {
		list = append(list, fault{name, rank, e, make})
	}
	update := func(name string, rank int, e api.Errno, make func(u *api.Update)) {
		add(name, rank, e, func(_ *site, y *try) { make(&y.u) })
	}
	add("no hold", ofHold, api.ErrArg, func(_ *site, y *try) { y.c = nil })
	add("another shard's hold", ofHold, api.ErrArg, func(p *site, y *try) { y.c = p.take(2) })
	add("another shard's closed hold", ofHold, api.ErrArg, func(p *site, y *try) { y.c = p.take(2); y.c.Release() })
	add("a closed hold", ofClosed, api.ErrOwner, func(p *site, y *try) { y.c = p.closed() })
	for _, flow := range []string{"", "a b", "f\x00", "ü", sized(own, 257, ""), text(1 << 20), flowOf(2, 0), sized(0, 256, "")} {
		update(fmt.Sprintf("flow %.9q", flow), ofName, api.ErrName, func(u *api.Update) { u.Flow = flow })
	}
	update("Expect too few", ofOrder, api.ErrOrder, func(u *api.Update) { u.Expect--; u.State.Events-- })
	update("Expect too many", ofOrder, api.ErrOrder, func(u *api.Update) { u.Expect++; u.State.Events++ })
	update("Expect alone too few", ofOrder, api.ErrOrder, func(u *api.Update) { u.Expect-- })
	update("Expect alone too many", ofOrder, api.ErrOrder, func(u *api.Update) { u.Expect++ })
	update("Expect far off", ofOrder, api.ErrOrder, func(u *api.Update) { u.Expect, u.State.Events = math.MaxInt, math.MinInt+1 })
	update("State too few", ofOrder, api.ErrOrder, func(u *api.Update) { u.State.Events-- })
	update("State too many", ofOrder, api.ErrOrder, func(u *api.Update) { u.State.Events++ })
	update("an event too many", ofOrder, api.ErrOrder, func(u *api.Update) { u.Events = append(u.Events, api.Event{Kind: api.Sent}) })
	update("an event too few", ofOrder, api.ErrOrder, func(u *api.Update) { u.Events = u.Events[1:] })
	for _, seq := range []int{1, 2, 4, 5, math.MaxInt} { // the mark of shard 3 is 2
		update(fmt.Sprint("Seq ", seq), ofOrder, api.ErrOrder, func(u *api.Update) { u.Source, u.Seq = 3, seq })
	}
	update("Seq 2 of no mark", ofOrder, api.ErrOrder, func(u *api.Update) { u.Source, u.Seq = 0, 2 })
	for _, source := range []int{-1, 4, 16, math.MaxInt, math.MinInt} {
		update(fmt.Sprint("Source with Seq 2 ", source), ofOrder, api.ErrOrder, func(u *api.Update) { u.Source, u.Seq = source, 2 })
		update(fmt.Sprint("Source ", source), ofArgument, api.ErrArg, func(u *api.Update) { u.Source, u.Seq = source, 1 })
	}
	update("Request too long", ofArgument, api.ErrArg, func(u *api.Update) { u.Request = text(257) })
	update("Request far too long", ofArgument, api.ErrArg, func(u *api.Update) { u.Request = text(1 << 20) })
	for name, make := range forms() {
		update(name, ofForm, api.ErrForm, make)
	}
	return list
}

// forms are the ways in which records are not right, or too large.
func forms() map[string]func(u *api.Update) {
	task := func(task api.Task) func(u *api.Update) {
		return func(u *api.Update) { u.Tasks = append(u.Tasks, task) }
	}
	noMail := mail("f", "")
	noMail.Kind = 0
	badMail := mail("f", "")
	badMail.Status = 5
	return map[string]func(u *api.Update){
		"State's Status":      func(u *api.Update) { u.State.Status = 5 },
		"State's Status <0":   func(u *api.Update) { u.State.Status = -1 },
		"State's Text":        func(u *api.Update) { u.State.Text = text(65001) },
		"State's long Text":   func(u *api.Update) { u.State.Text = text(api.MaxRecord + 1) },
		"State's node":        func(u *api.Update) { u.State.Nodes = []api.NodeState{{Status: 5}} },
		"State's try":         func(u *api.Update) { u.State.Nodes = []api.NodeState{{Try: -1}} },
		"event's Kind 0":      func(u *api.Update) { u.Events[0].Kind = 0 },
		"event's Kind 16":     func(u *api.Update) { u.Events[1].Kind = 16 },
		"event's Number":      func(u *api.Update) { u.Events[1].Number = api.MaxNumber/2 + 1 },
		"event's Text":        func(u *api.Update) { u.Events[0].Text = text(65001) },
		"task's Kind 0":       task(api.Task{}),
		"task's Kind 4":       task(api.Task{Kind: 4}),
		"task's ID":           task(api.Task{Kind: api.Dispatch, ID: 0.5}),
		"task's ID <0":        task(api.Task{Kind: api.Alarm, ID: -1i}),
		"message's ID":        task(api.Task{Kind: api.Message, ID: api.ID(complex(math.NaN(), 1)), Mail: mail("f", "")}),
		"task's At":           task(api.Task{Kind: api.Alarm, At: -1}),
		"task's Try":          task(api.Task{Kind: api.Dispatch, Try: api.MaxNumber + 1}),
		"task's Flow":         task(api.Task{Kind: api.Dispatch, Flow: text(65001)}),
		"dispatch's Mail":     task(api.Task{Kind: api.Dispatch, Mail: badMail}),
		"message's Mail":      task(api.Task{Kind: api.Message, Mail: badMail}),
		"message's Mail of 0": task(api.Task{Kind: api.Message, Mail: noMail}),
		"message without any": task(api.Task{Kind: api.Message}),
		"message to nobody":   task(api.Task{Kind: api.Message, Mail: mail("", "")}),
		"message to no flow":  task(message("a b", "")),
		"message to a long":   task(message(text(257), "")),
		"a later message":     func(u *api.Update) { u.Tasks = append(u.Tasks, message("f", ""), message("f!", "")) },
		"Answer":              func(u *api.Update) { u.Request, u.Answer = "r", text(4097) },
		"Answer alone":        func(u *api.Update) { u.Request, u.Answer = "", text(4097) },
		"all together":        func(u *api.Update) { u.State.Text = ""; fill(u, 65001) },
	}
}

// fill makes all records of an update so many bytes.
func fill(u *api.Update, bytes int) {
	u.State.Text = text(60000)
	for range 2 { // the text's length needs more bytes than it did
		was, _ := weight(*u)
		u.State.Text = text(len(u.State.Text) + bytes - was)
	}
}

// settled is a shard with a workflow of two events, and a mark of 2 of shard 3.
func settled(t *testing.T) *site {
	t.Helper()
	p := lay(t)
	p.commits(of(asks(grows(flowOf(own, 0), 0, 1, dispatch("a"), alarm("b", 1)), "r", "first"), 3, 1))
	p.commits(of(grows(flowOf(own, 0), 1, 1, message(flowOf(2, 0), "x")), 3, 2))
	return p
}

// right is what the faults spoil: of the workflow that is there, or of a new one.
func right(c *shard.Ctx, fresh bool) try {
	u := grows(flowOf(own, 0), 2, 2, dispatch("d"), message(flowOf(2, 0), "y"))
	if fresh {
		u = grows(flowOf(own, 999), 0, 2, dispatch("d"), message(flowOf(2, 0), "y"))
	}
	return try{c, asks(of(u, 3, 3), "q", "second")}
}

// refusesTry ends the test if a try is not refused so, or changes anything.
func (p *site) refusesTry(name string, y try, want api.Errno) {
	p.t.Helper()
	was, u := p.stands(), fmt.Sprintf("%.9999v", y.u)
	got, e := p.x.Commit(y.c, y.u)
	if e != want || got != nil {
		p.t.Fatalf("%s: answered %v, %d, want %d", name, got, e, want)
	}
	p.still(was)
	if fmt.Sprintf("%.9999v", y.u) != u {
		p.t.Fatal(name, "has changed what was handed in")
	}
}

// Each refusal alone.
func TestCommitRefuses(t *testing.T) {
	for _, fresh := range []bool{false, true} {
		p := settled(t)
		for _, f := range faults() {
			y := right(p.c, fresh)
			f.make(p, &y)
			p.refusesTry(f.name, y, f.e)
		}
		p.hold() // since some of them were holds of their own
		p.commits(right(p.c, fresh).u)
		p.stored()
	}
}

// Of two at once the first is told.
func TestCommitTellsTheFirstRefusal(t *testing.T) {
	p := settled(t)
	list := faults()
	for _, a := range list {
		for _, b := range list {
			if a.rank >= b.rank {
				continue
			}
			y := right(p.c, true)
			b.make(p, &y) // where both spoil the same, the first one's stays
			a.make(p, &y)
			got, e := p.x.Commit(y.c, y.u)
			if e != a.e || got != nil {
				t.Fatalf("%s, %s: answered %v, %d, want %d", a.name, b.name, got, e, a.e)
			}
		}
	}
	p.hold()
	p.holds()
}

// full is a shard that has as many workflows as may be.
func full(t *testing.T) *site {
	t.Helper()
	p := settled(t)
	for i := 1; i < api.MaxFlows; i++ {
		u := grows(flowOf(own, i), 0, 1)
		p.want, _ = p.want.committed(u, 1, p.c.Made())
		_, e := p.x.Commit(p.c, u)
		answers(t, e, api.OK)
	}
	p.holds()
	return p
}

// MaxFlows workflows, and one more: what stands ahead of ErrFull is told, what stands behind it is not.
func TestCommitOfAFullShard(t *testing.T) {
	p := full(t)
	p.refusesTry("one more", right(p.c, true), api.ErrFull)
	for _, f := range faults() {
		if f.rank < ofName {
			continue
		}
		y := right(p.c, true)
		f.make(p, &y)
		want := f.e
		if f.rank > ofRoom {
			want = api.ErrFull
		}
		if got, e := p.x.Commit(p.c, y.u); e != want || got != nil {
			t.Fatalf("%s: answered %v, %d, want %d", f.name, got, e, want)
		}
	}
	p.holds()
	p.commits(right(p.c, false).u)
	p.commits(grows(flowOf(own, 255), 1, 1))
	p.commits(grows(flowOf(own, 255), 2, 0))
	p.refusesTry("one more", try{p.c, grows(flowOf(own, 256), 0, 0)}, api.ErrFull)
	p.stored()
}

// What is just not refused.

func TestCommitOfFlowsOfAnyLength(t *testing.T) {
	p := lay(t)
	for _, bytes := range []int{4, 64, 199, 200, 201, 255, 256} {
		p.commits(asks(grows(sized(own, bytes, ""), 0, 2), "r", fmt.Sprint(bytes)))
	}
	p.refuses(grows(sized(own, 257, ""), 0, 2), api.ErrName)
	p.stored()
}

// In a cluster of one shard every workflow is its own; in one of sixteen just a part of them.
func TestCommitOfOtherClusters(t *testing.T) {
	p := layOf(t, 1, 0)
	for _, name := range []string{"a", "b", "c", "d"} {
		p.commits(grows(name, 0, 1, message("e", name), message("f", name)))
	}
	if p.x.Last(0) != 8 {
		t.Fatal(p.x.Last(0))
	}
	for own := range 16 {
		p := layOf(t, 16, own)
		took := 0
		for i := range 64 {
			u := grows(fmt.Sprint("w", i), 0, 1, message(fmt.Sprint("t", i), "x"))
			if p.want.refuses(u) == api.OK {
				p.commits(of(u, (own+took)%16, took/16+1))
				took++
				continue
			}
			p.refuses(u, api.ErrName)
		}
		p.stored()
	}
}

func TestCommitBehindTheMark(t *testing.T) {
	p := settled(t)
	f := flowOf(own, 0)
	p.commits(of(grows(f, 2, 1), 3, 3))
	for _, source := range []int{0, 1, 2} {
		p.commits(of(grows(f, 3+source, 1), source, 1))
	}
	// Where Seq is not above 0 no mark is asked for, nor set, whatever the Source.
	at := 6
	for _, source := range []int{-1, 0, 1, 3, 4, 99, math.MaxInt, math.MinInt} {
		for _, seq := range []int{0, -1, math.MinInt} {
			p.commits(of(grows(f, at, 1), source, seq))
			at++
		}
	}
	p.commits(of(grows(f, at, 1), 3, 4))
	if p.x.Mark(0) != 1 || p.x.Mark(1) != 1 || p.x.Mark(2) != 1 || p.x.Mark(3) != 4 {
		t.Fatal("marks")
	}
	for seq := range 300 { // above one byte
		p.commits(of(grows(f, at+1, 0), 0, seq+2))
	}
	p.stored()
}

func TestCommitOfRequestsAtTheEdge(t *testing.T) {
	p := lay(t)
	f := flowOf(own, 0)
	any := strings.Repeat("\x00\xff r\n", 64)[:256]
	p.requests = append(p.requests, text(256), any, text(255))
	p.commits(asks(grows(f, 0, 1), text(256), text(4096)))
	p.refuses(asks(grows(f, 1, 1), text(257), "a"), api.ErrArg)
	p.refuses(asks(grows(f, 1, 1), text(256), text(4097)), api.ErrForm)
	p.commits(asks(grows(f, 1, 1), any, any))
	p.commits(asks(grows(f, 2, 1), text(255), ""))
	if a, known := p.x.Answer(f, text(255)); a != "" || !known {
		t.Fatal(a, known)
	}
	p.commits(asks(grows(f, 3, 1), "", text(4096))) // without a name an answer is not kept
	if a, known := p.x.Answer(f, ""); a != "" || known {
		t.Fatal(a, known)
	}
	p.stored()
}

// All records together may have 65000 bytes, in whichever of them these are.
func TestCommitOf65000Bytes(t *testing.T) {
	f := flowOf(own, 0)
	two := flowOf(2, 0)
	most := map[string]func(room int) api.Update{
		"the State": func(room int) api.Update {
			u := grows(f, 0, 1, dispatch("a"), message(two, "x"))
			fill(&u, room)
			return u
		},
		"an event": func(room int) api.Update {
			return filled(grows(f, 0, 2, dispatch("a")), room, func(u *api.Update, n int) { u.Events[1].Text = text(n) })
		},
		"a dispatch": func(room int) api.Update {
			return filled(grows(f, 0, 1, dispatch("a")), room, func(u *api.Update, n int) { u.Tasks[0].Node = text(n) })
		},
		"an alarm": func(room int) api.Update {
			return filled(grows(f, 0, 1, alarm("a", api.MaxNumber)), room, func(u *api.Update, n int) { u.Tasks[0].Flow = text(n) })
		},
		"a dispatch's mail": func(room int) api.Update {
			return filled(grows(f, 0, 1, api.Task{Kind: api.Dispatch, Mail: mail("a b", "")}), room, func(u *api.Update, n int) { u.Tasks[0].Mail.Text = text(n) })
		},
		"a message": func(room int) api.Update {
			return filled(grows(f, 0, 1, message(two, "x")), room, func(u *api.Update, n int) { u.Tasks[0].Node = text(n) })
		},
		"a message's mail": func(room int) api.Update {
			return filled(grows(f, 0, 1, message(two, "x")), room, func(u *api.Update, n int) { u.Tasks[0].Mail.Text = text(n) })
		},
		"an ID that is handed in": func(room int) api.Update {
			u := grows(f, 0, 1, dispatch("a"))
			u.Tasks[0].ID = api.MaxNumber + api.MaxNumber*1i
			return filled(u, room, func(u *api.Update, n int) { u.State.Text = text(n) })
		},
	}
	for name, of := range most {
		p := lay(t)
		u := asks(of(65001), "r", text(4096))
		if bytes, right := weight(u); bytes != 65001 || !right {
			t.Fatal(name, bytes, right)
		}
		p.refuses(u, api.ErrForm)
		p.commits(asks(of(65000), "r", text(4096)))
		p.stored()
	}
}

// filled is an update with that text in it which makes all records so many bytes.
func filled(u api.Update, bytes int, with func(u *api.Update, n int)) api.Update {
	n := 60000
	for range 2 {
		with(&u, n)
		was, _ := weight(u)
		n += bytes - was
	}
	with(&u, n)
	return u
}

// As many records as 65000 bytes have room for: the batch is taken, though it has many keys.
func TestCommitOfManySmallRecords(t *testing.T) {
	f := flowOf(own, 0)
	small := map[string]func(u *api.Update){
		"events":     func(u *api.Update) { u.Events = append(u.Events, api.Event{Kind: api.Sent}); u.State.Events++ },
		"dispatches": func(u *api.Update) { u.Tasks = append(u.Tasks, api.Task{Kind: api.Dispatch}) },
		"alarms":     func(u *api.Update) { u.Tasks = append(u.Tasks, api.Task{Kind: api.Alarm}) },
		"messages": func(u *api.Update) {
			u.Tasks = append(u.Tasks, api.Task{Kind: api.Message, Mail: api.Mail{Kind: api.MailCancel, To: "x"}})
		},
	}
	for name, more := range small {
		p := lay(t)
		u := asks(of(api.Update{Flow: f}, 3, 1), text(256), text(4096))
		more(&u)
		one, _ := weight(u)
		more(&u)
		two, _ := weight(u)
		for range (64990 - two) / (two - one) { // the number of events gets wider, too
			more(&u)
		}
		if bytes, right := weight(u); bytes < 64900 || bytes > 65000 || !right {
			t.Fatal(name, bytes, right)
		}
		got, e := p.x.Commit(p.c, u)
		if e != api.OK || len(got) != len(u.Tasks) {
			t.Fatal(name, len(got), e)
		}
		if many := len(p.x.Events(f)) + len(p.x.Dispatches()) + len(p.x.Alarms()) + len(p.x.Outbox(0)) + len(p.x.Outbox(1)) + len(p.x.Outbox(2)) + len(p.x.Outbox(3)); many != len(u.Events)+len(u.Tasks) {
			t.Fatal(name, many)
		}
	}
}

// What is committed.

func TestTasksGetIDsInOrder(t *testing.T) {
	p := lay(t)
	f, two := flowOf(own, 0), flowOf(2, 0)
	got := p.commits(grows(f, 0, 1, message(two, "1"), dispatch("a"), message(f, "2"), alarm("b", 5), dispatch("c"), message(two, "3"), alarm("d", 4), message(two, "4")))
	var ids []api.ID
	for _, task := range got {
		ids = append(ids, task.ID)
	}
	if want := []api.ID{0, 1 + 1i, 0, 1 + 2i, 1 + 3i, 0, 1 + 4i, 0}; !slices.Equal(ids, want) {
		t.Fatal(ids)
	}
	// An ID that is handed in is a task's no more; a message's stays as it was.
	a, m := dispatch("e"), message(two, "5")
	a.ID, m.ID = 1+1i, 9+9i
	got = p.commits(grows(f, 1, 1, a, m, alarm("g", 1)))
	if got[0].ID != 1+5i || got[1] != m || got[2].ID != 1+6i {
		t.Fatal(got)
	}
	p.hold()
	got = p.commits(grows(f, 2, 1, dispatch("h"), alarm("i", 0)))
	if got[0].ID != 2+1i || got[1].ID != 2+2i {
		t.Fatal(got)
	}
	p.c.Next() // whoever else makes IDs of the hold, none comes twice
	got = p.commits(grows(f, 3, 1, dispatch("j")))
	if got[0].ID != 2+4i {
		t.Fatal(got)
	}
	p.stored()
}

// A task's Flow may be any, and so may a State's ID: what is not looked at is kept as it is.
func TestCommitKeepsRecordsAsTheyAre(t *testing.T) {
	p := lay(t)
	f := flowOf(own, 0)
	u := grows(f, 0, 1, api.Task{Kind: api.Dispatch, Flow: "a b", At: 5, Mail: mail("no flow", "x")}, api.Task{Kind: api.Alarm})
	u.State.ID = "another"
	u.State.Status = 0
	u.State.Nodes = nil
	p.commits(u)
	if s, there := p.x.Load(f); !there || s.ID != "another" || fmt.Sprint(p.x.Flows()) != "["+f+"]" {
		t.Fatal(s, there)
	}
	p.commits(grows(f, 1, 1))
	p.stored()
}

func TestMessagesForSeveralShards(t *testing.T) {
	p := lay(t)
	f := flowOf(own, 0)
	at := 0
	for round := range 4 {
		var tasks []api.Task
		for i := range 90 {
			tasks = append(tasks, message(fmt.Sprint("t", i), fmt.Sprint(round, i)))
		}
		p.commits(grows(f, at, 1, tasks...))
		at++
	}
	sum := 0
	for to := range shards {
		for i, e := range p.x.Outbox(to) {
			if e.Kind != api.EnvMail || e.From != own || e.To != to || e.Seq != i+1 {
				t.Fatal(to, i, e)
			}
		}
		if p.x.Last(to) != len(p.x.Outbox(to)) || p.x.Last(to) == 0 {
			t.Fatal(to, p.x.Last(to))
		}
		sum += p.x.Last(to)
	}
	if sum != 360 {
		t.Fatal(sum)
	}
	p.stored()
}

// known tells which of the requests r0, r1 .. a workflow remembers.
func known(p *site, name string, most int) string {
	out := ""
	for i := range most {
		if a, there := p.x.Answer(name, fmt.Sprint("r", i)); there {
			out += fmt.Sprint(" ", i, "=", a)
		}
	}
	return out
}

func TestSixtyFourRequests(t *testing.T) {
	p := lay(t)
	f, g := flowOf(own, 0), flowOf(own, 1)
	p.requests = nil
	ask := func(i int, answer string) {
		t.Helper()
		p.commits(asks(grows(f, 0, 0), fmt.Sprint("r", i), answer))
	}
	p.commits(asks(grows(g, 0, 1), "r0", "other"))
	for i := range 64 {
		ask(i, "a")
	}
	if _, there := p.x.Answer(f, "r0"); !there {
		t.Fatal("the first of sixty-four is forgotten")
	}
	ask(0, "b") // it is known: none else is forgotten, and it is the latest now
	want := " 0=b"
	for i := 1; i < 64; i++ {
		want += fmt.Sprint(" ", i, "=a")
	}
	if got := known(p, f, 99); got != want {
		t.Fatal(got)
	}
	ask(64, "c") // the sixty-fifth: the oldest is 1
	ask(63, "d")
	ask(65, "e") // and now 2
	want = " 0=b"
	for i := 3; i < 63; i++ {
		want += fmt.Sprint(" ", i, "=a")
	}
	if got := known(p, f, 99); got != want+" 63=d 64=c 65=e" {
		t.Fatal(got)
	}
	for i := 100; i < 163; i++ {
		ask(i, "x")
	}
	if got := known(p, f, 99); got != " 65=e" {
		t.Fatal(got)
	}
	ask(65, "f")
	ask(65, "g")
	ask(163, "x")
	if got := known(p, f, 101); got != " 65=g" {
		t.Fatal(got)
	}
	if got := known(p, g, 99); got != " 0=other" {
		t.Fatal(got)
	}
	keys := p.store.Len()
	for i := range 700 {
		ask(1000+i, "y")
	}
	if p.store.Len() != keys {
		t.Fatal(p.store.Len()-keys, "keys of what is forgotten are left")
	}
	if got := known(p, f, 1700); strings.Count(got, "=y") != 64 || !strings.HasPrefix(got, " 1636=y") {
		t.Fatal(got)
	}
	p.stored()
}

// An update without a request forgets none.
func TestRequestsStayWithoutNewOnes(t *testing.T) {
	p := lay(t)
	f := flowOf(own, 0)
	p.commits(asks(grows(f, 0, 1), "r", "a"))
	for i := range 80 {
		p.commits(grows(f, 1+i, 1))
	}
	if a, there := p.x.Answer(f, "r"); a != "a" || !there {
		t.Fatal(a, there)
	}
}

// A workflow may come without an event: it is one from then on.
func TestCommitOfNoEvents(t *testing.T) {
	p := lay(t)
	f := flowOf(own, 0)
	p.commits(grows(f, 0, 0))
	if _, there := p.x.Load(f); !there {
		t.Fatal("it is not there")
	}
	p.commits(asks(grows(f, 0, 0), "r", "a"))
	p.commits(asks(grows(f, 0, 2), "r", "b"))
	p.commits(grows(f, 2, 0, dispatch("a"), message(f, "x")))
	p.stored()
}

// What c refuses.

// A hold that is no more the last one is fenced: nothing has changed but that IDs were made, and that it is closed.
func TestCommitOfAnEarlierHold(t *testing.T) {
	p := settled(t)
	y := right(p.c, false)
	p.hold()
	was := p.stands()
	made := y.c.Made()
	if got, e := p.x.Commit(y.c, y.u); got != nil || e != api.ErrFence || y.c.Open() || y.c.Made() != made+1 {
		t.Fatal(got, e, y.c.Open(), y.c.Made())
	}
	if got, e := p.x.Commit(y.c, y.u); got != nil || e != api.ErrOwner || y.c.Made() != made+1 {
		t.Fatal(got, e, y.c.Made())
	}
	p.still(was)
	p.commits(y.u)
}

// nearlyFull lets a hold have so many IDs left. No test has the time to make the others.
func nearlyFull(t *testing.T, c *shard.Ctx, left int) {
	t.Helper()
	last := reflect.ValueOf(c).Elem().FieldByName("last")
	*(*api.ID)(unsafe.Pointer(last.UnsafeAddr())) = api.ID(complex(float64(c.Range()), float64(api.MaxNumber-left)))
	if c.Made() != api.MaxNumber-left {
		t.Fatal(c.Made())
	}
}

func TestCommitOfAHoldWithoutIDs(t *testing.T) {
	p := settled(t)
	f := flowOf(own, 0)
	nearlyFull(t, p.c, 2)
	u := grows(f, 2, 1, dispatch("a"), message(f, "x"), alarm("b", 1), dispatch("c"))
	if got, e := p.x.Commit(p.c, u); got != nil || e != api.ErrFull || p.c.Made() != api.MaxNumber {
		t.Fatal(got, e, p.c.Made())
	}
	p.holds()
	p.refuses(grows(f, 2, 1, alarm("a", 1)), api.ErrFull)
	p.commits(grows(f, 2, 1, message(f, "x")))
	p.hold()
	nearlyFull(t, p.c, 2)
	u.Expect, u.State.Events = 3, 4
	u.Tasks = u.Tasks[:3]
	p.commits(u)
	if got := p.x.Dispatches(); codec.IDKey(got[len(got)-1].ID) != "00000000000002"+"0fffffffffffff" {
		t.Fatal(codec.IDKey(got[len(got)-1].ID))
	}
	p.stored()
}
