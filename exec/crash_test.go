package exec_test

import (
	"fmt"
	"math"
	"math/rand"
	"slices"
	"strings"
	"testing"

	"tiller/api"
	"tiller/dag"
	"tiller/history"
	"tiller/shard"
	"tiller/world"
)

// stops is the kind of a trouble that is no fault, but a stop.
const stops = -1

// meets lays a trouble on a disk, behind some operations.
func meets(d *world.Disk, after, kind int) {
	if kind == stops {
		d.Stop(after)
		return
	}
	d.Fail(after, kind)
}

// refusal is what a disk answers when it meets that kind.
func refusal(kind int) api.Errno {
	if kind == stops {
		return api.ErrDead
	}
	return api.ErrIO
}

// heals: no trouble is left on a disk, without a crash.
func heals(d *world.Disk) {
	d.Stop(math.MaxInt)
}

// batch is a call that commits something where it is furnished.
type batch struct {
	name string
	made int // IDs
	do   call
	of   func(m model, c *shard.Ctx) model // the shard behind it
}

// batches are calls of each kind.
func batches() []batch {
	f := flowOf(own, 0)
	fresh := of(asks(grows(flowOf(own, 1), 0, 2, dispatch("x"), message(f, "p"), alarm("y", 7), message(flowOf(2, 0), "q"), dispatch("z")), "q", "b"), 3, 3)
	more := of(asks(grows(f, 2, 3, dispatch("x"), message(f, "p"), alarm("y", 7)), "r", "b"), 0, 1)
	commit := func(name string, made int, u api.Update) batch {
		return batch{name, made, func(p *site, c *shard.Ctx) (int, api.Errno) {
			tasks, e := p.x.Commit(c, u)
			return len(tasks), e
		}, func(m model, c *shard.Ctx) model {
			m, _ = m.committed(u, c.Range(), c.Made())
			return m
		}}
	}
	return []batch{
		commit("Commit of a new workflow", 3, fresh),
		commit("Commit of more events", 2, more),
		commit("Commit of an answer", 0, asks(grows(f, 2, 0), "r", "b")),
		{"Advance", 0, advance(1 + 3i), func(m model, c *shard.Ctx) model { m, _, _ = m.advanced(1 + 3i); return m }},
		{"Advance over nothing", 0, advance(1), func(m model, c *shard.Ctx) model { m, _, _ = m.advanced(1); return m }},
		{"Drop", 0, drop(1 + 4i), func(m model, c *shard.Ctx) model { m, _ = m.dropped(1 + 4i); return m }},
		{"Acked", 0, ack(2, 2), func(m model, c *shard.Ctx) model { m, _, _ = m.acked(2, 2); return m }},
		{"Pass", 0, pass(3, 3), func(m model, c *shard.Ctx) model { m, _ = m.passed(3, 3, nil); return m }},
		{"Pass with mails", 0, pass(3, 3, mail(f, "1"), mail(flowOf(2, 0), "2")), func(m model, c *shard.Ctx) model {
			m, _ = m.passed(3, 3, []api.Mail{mail(f, "1"), mail(flowOf(2, 0), "2")})
			return m
		}},
	}
}

// everywhere does each batch with a trouble of each kind at each of its operations, till there is none left to strike. What is tried tells whether the trouble was met.
func everywhere(t *testing.T, try func(p *site, b batch, kind int) bool) {
	t.Helper()
	for _, b := range batches() {
		for _, kind := range []int{0, 1, 2, stops} {
			met := true
			for after := 0; met; after++ {
				t.Run(fmt.Sprintf("%s, kind %d, operation %d", b.name, kind, after), func(t *testing.T) {
					met = false // also where the try ends the test
					p := furnished(t)
					p.requests = []string{"r", "q"}
					meets(p.disk, after, kind)
					met = try(p, b, kind)
					if !met && after == 0 {
						t.Error("no operation was struck")
					}
				})
			}
		}
	}
}

// What the disk refuses is the answer: nothing has changed but that IDs were made, and the hold stands. The same is taken when the trouble is over.
func TestTrouble(t *testing.T) {
	everywhere(t, func(p *site, b batch, kind int) bool {
		made := p.c.Made()
		next := b.of(p.want, p.c)
		n, e := b.do(p, p.c)
		if e == api.OK {
			p.want = next
			p.holds()
			return false
		}
		answers(p.t, e, refusal(kind))
		if n != 0 || p.c.Made() != made+b.made || !p.c.Open() {
			p.t.Fatal(n, p.c.Made(), p.c.Open())
		}
		p.holds()
		heals(p.disk)
		next = b.of(p.want, p.c)
		_, e = b.do(p, p.c)
		answers(p.t, e, api.OK)
		p.want = next
		p.holds()
		p.stored()
		return true
	})
}

// P10.5, W4: behind a crash, whatever it cuts, a batch is there whole, or not at all; if it was OK, it is there.
func TestBatchesBehindACrash(t *testing.T) {
	r := rand.New(rand.NewSource(10))
	cuts := []int{0, 1, 2, 3, 4, 15, 16, 40, 41, 202, 203, 601, 900}
	for range 10 {
		cuts = append(cuts, r.Intn(4000))
	}
	for _, cut := range cuts {
		everywhere(t, func(p *site, b batch, kind int) bool {
			ahead, next := told(p.want, p.requests...), b.of(p.want, p.c)
			_, e := b.do(p, p.c)
			p.disk.Crash([]int{cut, cut * 3, cut * 7})
			p.open()
			behind := told(next, p.requests...)
			if got := told(p.x, p.requests...); got != behind && (e == api.OK || got != ahead) {
				p.t.Fatalf("cut %d, answered %d:\n%s", cut, e, got)
			} else if got == behind {
				p.want = next
			}
			// Whatever is there, the next hold goes on from it.
			p.hold()
			f := flowOf(own, 0)
			p.commits(of(grows(f, len(p.want.flows[f].events), 1, dispatch("next"), message(f, "next")), 3, p.want.mark[3]+1))
			p.stored()
			return e != api.OK
		})
	}
}

// walker follows a shard through calls of many holds, troubles and crashes, beside the model.
type walker struct {
	*site
	r     *rand.Rand
	holds []*shard.Ctx // of the time since the last crash, the last one last
	open  map[*shard.Ctx]bool
	could []model // as it may be behind a crash: had one of the calls been OK that were refused since the last one that was
	fence int
	last  int // the range of the last batch
	ill   bool
	mails map[[2]int]api.Mail // what was ever told under a shard and a Seq
	story []string
	done  map[string]int
}

func (w *walker) fatal(what ...any) {
	w.t.Helper()
	w.t.Fatalf("%s\nbehind %s", fmt.Sprintln(what...), strings.Join(w.story, "; "))
}

func (w *walker) tell(what ...any) {
	w.story = append(w.story, strings.TrimSpace(fmt.Sprintln(what...)))
}

// does makes a call, of which the model says: why it is refused by what it asks for; or what it makes of the shard and its number; or that it commits nothing.
func (w *walker) does(name string, c *shard.Ctx, refused api.Errno, next model, many int, idle bool, do call) {
	n, e := do(w.site, c)
	w.tell(name, "of", c.Range(), "is", n, e)
	w.done[fmt.Sprint(strings.Fields(name)[0], " ", e)]++
	want := api.OK
	switch {
	case !w.open[c]:
		want = api.ErrOwner
	case refused != api.OK:
		want = refused
	case idle:
	case c.Range() != w.fence:
		want = api.ErrFence
		w.open[c] = false
	case w.ill && (e == api.ErrIO || e == api.ErrDead):
		want = e
		w.could = append(w.could, next)
	default:
		w.want, w.could = next, nil
		if c.Range() < w.last {
			w.fatal("a batch behind one of", w.last)
		}
		w.last = c.Range()
	}
	if want != api.OK {
		many = 0
	}
	if e != want || n != many || c.Open() != w.open[c] {
		w.fatal("want", many, want)
	}
}

// any is one of the holds, mostly the last one.
func (w *walker) any() *shard.Ctx {
	if w.r.Intn(5) > 0 {
		return w.holds[len(w.holds)-1]
	}
	return w.holds[w.r.Intn(len(w.holds))]
}

// off is a number as it should be, or, now and then, beside it.
func (w *walker) off(n int) int {
	if w.r.Intn(20) == 0 {
		return n + w.r.Intn(5) - 2
	}
	return n
}

// update is any update that is mostly right.
func (w *walker) update() api.Update {
	name := flowOf(own, w.r.Intn(5))
	if w.r.Intn(25) == 0 {
		name = flowOf(w.r.Intn(shards), 0)
	}
	var tasks []api.Task
	for range w.r.Intn(6) {
		note := fmt.Sprint(len(w.story), "/", len(tasks))
		tasks = append(tasks, []api.Task{dispatch(note), alarm(note, w.r.Intn(4)), message(flowOf(w.r.Intn(shards), w.r.Intn(2)), note)}[w.r.Intn(3)])
	}
	was := len(w.want.flows[name].events)
	u := grows(name, was, w.r.Intn(4), tasks...)
	u.Expect, u.State.Events = w.off(was), w.off(u.State.Events)
	if w.r.Intn(2) == 0 {
		u = asks(u, w.requests[w.r.Intn(len(w.requests))], fmt.Sprint(len(w.story)))
	}
	if w.r.Intn(2) == 0 {
		source := w.off(w.r.Intn(shards))
		u = of(u, source, w.off(w.want.Mark(source)+1))
	}
	if w.r.Intn(25) == 0 {
		u.State.Status = 7
	}
	return u
}

func (w *walker) commit() {
	c, u := w.any(), w.update()
	refused := w.want.refuses(u)
	next, tasks := w.want, []api.Task(nil)
	if refused == api.OK {
		next, tasks = w.want.committed(u, c.Range(), c.Made())
	}
	w.does("Commit "+u.Flow, c, refused, next, len(tasks), false, func(p *site, c *shard.Ctx) (int, api.Errno) {
		got, e := p.x.Commit(c, u)
		if e == api.OK && !slices.Equal(got, tasks) {
			w.fatal(got, "want", tasks)
		}
		return len(got), e
	})
}

func (w *walker) advance() {
	c := w.any()
	level := api.ID(complex(float64(w.r.Intn(c.Range()+1)), float64(w.r.Intn(20)-1)))
	if list := w.want.Dispatches(); len(list) > 0 && w.r.Intn(3) > 0 {
		level = list[w.r.Intn(len(list))].ID
	}
	next, many, commits := w.want.advanced(level)
	w.does(fmt.Sprint("Advance ", level), c, api.OK, next, many, !commits, advance(level))
}

func (w *walker) drop() {
	id := api.ID(complex(float64(w.r.Intn(4)), float64(w.r.Intn(9))))
	if list := w.want.alarms; len(list) > 0 && w.r.Intn(5) > 0 {
		id = list[w.r.Intn(len(list))].ID
	}
	next, there := w.want.dropped(id)
	refused := api.OK
	if !there {
		refused = api.ErrNone
	}
	w.does(fmt.Sprint("Drop ", id), w.any(), refused, next, 0, false, drop(id))
}

func (w *walker) ack() {
	to := w.off(w.r.Intn(shards))
	seq := w.want.Last(to) - w.r.Intn(6) + w.r.Intn(2)
	next, many, refused := w.want.acked(to, seq)
	w.does(fmt.Sprint("Acked ", to, seq), w.any(), refused, next, many, many == 0, ack(to, seq))
}

func (w *walker) pass() {
	from := w.off(w.r.Intn(shards))
	seq := w.off(w.want.Mark(from) + 1)
	var back []api.Mail
	for range w.r.Intn(4) {
		back = append(back, mail(flowOf(w.r.Intn(shards), 0), fmt.Sprint(len(w.story), "-", len(back))))
	}
	if w.r.Intn(20) == 0 {
		back = append(back, api.Mail{})
	}
	next, refused := w.want.passed(from, seq, back)
	w.does(fmt.Sprint("Pass ", from, seq), w.any(), refused, next, 0, false, pass(from, seq, back...))
}

// acquire takes the shard. If the disk refuses that, nobody holds it but who did.
func (w *walker) acquire() {
	c, e := shard.Acquire(w.table, w.store, own, w.r.Intn(5))
	w.tell("Acquire", e)
	if e != api.OK {
		if !w.ill {
			w.fatal("refused without a trouble")
		}
		return
	}
	w.holds, w.open[c] = append(w.holds, c), true
	w.fence, w.could = c.Range(), nil
}

// crash crashes the disk: the shard is as it was, or as one of those calls would have made it.
func (w *walker) crash() {
	cuts := []int{w.r.Intn(900), w.r.Intn(900), w.r.Intn(900)}
	w.tell("crash", cuts)
	w.disk.Crash(cuts)
	w.site.open()
	w.ill, w.holds = false, nil
	got := told(w.x, w.requests...)
	for _, m := range append(w.could, w.want) {
		if told(m, w.requests...) == got {
			w.want = m
		}
	}
	w.could = nil
	if w.store.Fence() < w.fence {
		w.fatal("the fence is", w.store.Fence())
	}
	w.acquire()
}

func (w *walker) step() {
	kind := w.r.Intn(40)
	switch {
	case kind < 18:
		w.commit()
	case kind < 21:
		w.advance()
	case kind < 24:
		w.drop()
	case kind < 28:
		w.ack()
	case kind < 32:
		w.pass()
	case kind < 35:
		w.acquire()
	case kind < 38:
		w.tell("trouble")
		meets(w.disk, w.r.Intn(12), w.r.Intn(4)-1)
		w.ill = true
	default:
		w.crash()
	}
}

// check: all is told as the model says it; and what stands under a Seq is one mail for ever (P10.6).
func (w *walker) check() {
	w.t.Helper()
	if got, want := told(w.x, w.requests...), told(w.want, w.requests...); got != want {
		w.tell("told")
		w.t.Log(strings.Join(w.story, "; "))
		same(w.t, got, want)
	}
	for to := range shards {
		for _, e := range w.x.Outbox(to) {
			at := [2]int{to, e.Seq}
			if was, some := w.mails[at]; some && was != e.Mail {
				w.fatal("under", at, "stand", was, "and", e.Mail)
			}
			w.mails[at] = e.Mail
		}
	}
}

// P10.3 to P10.6, W2, W4
func TestManyCallsThroughTroublesAndCrashes(t *testing.T) {
	done := map[string]int{}
	for seed := range 80 {
		w := &walker{site: lay(t), r: rand.New(rand.NewSource(int64(seed))), open: map[*shard.Ctx]bool{}, mails: map[[2]int]api.Mail{}, done: done}
		w.requests = nil
		for i := range 12 {
			w.requests = append(w.requests, fmt.Sprint("r", i))
		}
		w.holds, w.open[w.c], w.fence = []*shard.Ctx{w.c}, true, 1
		for range 150 {
			w.step()
			w.check()
		}
	}
	for _, what := range []string{"Commit 0", "Commit 1", "Commit 2", "Commit 3", "Commit 4", "Commit 5", "Commit 13", "Commit 14", "Commit 17", "Advance 0", "Advance 3", "Advance 5", "Drop 0", "Drop 3", "Drop 6", "Acked 0", "Acked 1", "Acked 4", "Pass 0", "Pass 1", "Pass 2", "Pass 3", "Pass 14"} {
		if done[what] < 5 {
			t.Error("too few:", what, done[what])
		}
	}
}

// P10.5: states are the folds of their events, where each update is Step's.

// anyInput is an input that a workflow of the definition below may get.
func anyInput(r *rand.Rand, name string, now int) api.Input {
	in := api.Input{Kind: 1 + r.Intn(8), Node: string(rune('a' + r.Intn(7))), Try: r.Intn(4), Text: fmt.Sprint(now), Status: r.Intn(5), Now: now}
	switch in.Kind {
	case api.InStart:
		in.Name, in.Node = name, ""
		in.Parent, in.ParentNode = "p", "n"
	case api.InSignal:
		in.Name = []string{"s", "go"}[r.Intn(2)]
	case api.InCancel:
		if r.Intn(8) > 0 { // it ends a workflow, so it comes rarely
			in.Kind = api.InTake
		}
	}
	return in
}

func TestStatesAreFolds(t *testing.T) {
	d, _, e := dag.Parse("workflow w\na activity q tries 3 timeout 5\nb timer 4\nc child w after a\nd wait s after b\ne send x go after d\nf activity q after e\ng wait go after c\n")
	answers(t, e, api.OK)
	ended, steps := 0, 0
	for seed := range 40 {
		r := rand.New(rand.NewSource(int64(seed)))
		p := lay(t)
		for now := range 250 {
			name := flowOf(own, r.Intn(4))
			s, _ := p.x.Load(name)
			events, next, tasks, e := history.Step(d, s, anyInput(r, name, now))
			if e != api.OK {
				continue
			}
			steps++
			if r.Intn(9) == 0 {
				meets(p.disk, r.Intn(8), r.Intn(4)-1)
			}
			_, e = p.x.Commit(p.c, api.Update{Flow: name, Expect: s.Events, Events: events, State: next, Tasks: tasks})
			if e != api.OK || r.Intn(20) == 0 {
				p.disk.Crash([]int{r.Intn(500), r.Intn(500)})
				p.open()
				p.hold()
			}
			for name, s := range p.x.All() {
				fold, e := history.Fold(d, name, p.x.Events(name))
				if e != api.OK || fmt.Sprint(fold) != fmt.Sprint(s) || len(p.x.Events(name)) != s.Events {
					t.Fatalf("%s is %+v\nits fold %+v, %d", name, s, fold, e)
				}
			}
		}
		for _, s := range p.x.All() {
			if s.Status > api.Running {
				ended++
			}
		}
	}
	if ended < 40 || steps < 1000 {
		t.Error("too few:", ended, steps)
	}
}

// P10.6: an envelope stays in its outbox, whatever else is done and whoever holds the shard, till Acked says that it is gone.
func TestEnvelopesStayTillTheyAreAcked(t *testing.T) {
	p := lay(t)
	f, two := flowOf(own, 0), flowOf(2, 0)
	p.commits(grows(f, 0, 1, message(two, "first"), message(flowOf(3, 0), "other")))
	first := p.x.Outbox(2)[0]
	stays := func() {
		t.Helper()
		if l := p.x.Outbox(2); len(l) == 0 || l[0] != first || first.Seq != 1 {
			t.Fatal(l)
		}
	}
	for i := range 10 {
		p.commits(asks(grows(f, 1+i, 1, dispatch("a"), alarm("b", i), message(two, fmt.Sprint(i))), "r", "a"))
		p.passes(0, i+1, mail(two, "back"))
		p.advances(api.ID(complex(float64(p.c.Range()), float64(p.c.Made()))), 1)
		p.drops(p.x.Alarms()[0].ID)
		stays()
		p.hold()
		stays()
		p.disk.Crash([]int{i, i})
		p.open()
		p.hold()
		stays()
	}
	p.acks(3, 1, 1)
	p.acks(2, 0, 0)
	stays()
	p.acks(2, 1, 1)
	p.commits(grows(f, 11, 1, message(two, "last")))
	if l := p.x.Outbox(2); l[0].Seq != 2 || l[len(l)-1].Seq != 22 || l[len(l)-1].Mail.Text != "last" {
		t.Fatal(l)
	}
	p.acks(2, 22, 21)
	p.disk.Crash(nil)
	p.open()
	p.hold()
	p.commits(grows(f, 12, 1, message(two, "behind all")))
	if l := p.x.Outbox(2); len(l) != 1 || l[0].Seq != 23 {
		t.Fatal(l)
	}
	p.stored()
}

// R1, R8: a store in which others have laid what they like makes no call panic.
func TestStoreThatOthersHaveWrittenInto(t *testing.T) {
	r := rand.New(rand.NewSource(1))
	f := flowOf(own, 0)
	for range 300 {
		p := furnished(t)
		var ops []api.Op
		for key := range p.store.Scan("", "") {
			if r.Intn(3) == 0 {
				value := make([]byte, r.Intn(6))
				r.Read(value)
				ops = append(ops, api.Op{Key: key[:1+r.Intn(len(key))], Value: string(value)}, api.Op{Key: key + string(value), Value: f})
			}
		}
		p.store.Commit(p.store.Fence(), ops)
		told(p.x, "r")
		s, _ := p.x.Load(f)
		p.x.Commit(p.c, asks(grows(f, s.Events, 1, dispatch("a"), alarm("b", 1), message(f, "x")), "r", "b"))
		p.x.Advance(p.c, 5)
		p.x.Drop(p.c, 1+2i)
		p.x.Acked(p.c, 2, p.x.Last(2))
		p.x.Pass(p.c, 3, p.x.Mark(3)+1, []api.Mail{mail(f, "x")})
		told(p.x, "r")
	}
}
