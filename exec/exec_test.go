package exec_test

import (
	"fmt"
	"slices"
	"strings"
	"testing"

	"tiller/api"
	"tiller/exec"
	"tiller/kv"
	"tiller/lease"
	"tiller/ring"
	"tiller/shard"
	"tiller/world"
)

// The cluster of most tests has four shards, and the shard that is looked at is 1.
const (
	shards = 4
	own    = 1
)

// site is a shard's store on a disk, a hold on it, and what it must tell.
type site struct {
	t        testing.TB
	disk     *world.Disk
	table    *lease.Table
	store    *kv.Store
	x        *exec.Exec
	c        *shard.Ctx
	want     model
	requests []string // whose answers are looked at
}

// layOf is a new one of a cluster of so many shards.
func layOf(t testing.TB, shards, own int) *site {
	t.Helper()
	p := &site{t: t, disk: world.NewDisk(), requests: []string{"", "r", "q"}}
	p.want = model{shards: shards, shard: own, flows: map[string]flow{}}
	p.table, _ = lease.Open(world.NewDisk())
	p.open()
	p.hold()
	return p
}

func lay(t testing.TB) *site {
	t.Helper()
	return layOf(t, shards, own)
}

// open opens the store anew.
func (p *site) open() {
	p.t.Helper()
	var e, f api.Errno
	p.store, e = kv.Open(p.disk, 0)
	p.x, f = exec.New(p.store, p.want.shards, p.want.shard)
	if e != api.OK || f != api.OK {
		p.t.Fatal(e, f)
	}
}

// hold takes the shard, anew.
func (p *site) hold() {
	p.t.Helper()
	p.c = p.take(p.want.shard)
}

// take takes any shard, over the same store.
func (p *site) take(n int) *shard.Ctx {
	p.t.Helper()
	for range 100 { // a fence that another shard's range has raised is passed by
		if c, e := shard.Acquire(p.table, p.store, n, 9); e != api.ErrFence {
			answers(p.t, e, api.OK)
			return c
		}
	}
	p.t.Fatal("the shard can't be taken")
	return nil
}

func answers(t testing.TB, got, want api.Errno) {
	t.Helper()
	if got != want {
		t.Fatalf("answered %d, want %d", got, want)
	}
}

// same ends the test if two texts are not alike; it shows the first lines that differ.
func same(t testing.TB, got, want string) {
	t.Helper()
	if got == want {
		return
	}
	a, b := strings.Split(got, "\n"), strings.Split(want, "\n")
	for i := range min(len(a), len(b)) {
		if a[i] != b[i] {
			t.Fatalf("line %d:\n%.600s\nwant\n%.600s", i, a[i], b[i])
		}
	}
	t.Fatalf("%d lines, want %d", len(a), len(b))
}

// holds ends the test if the Exec, or another one on the same store, tells anything but what it must.
func (p *site) holds() {
	p.t.Helper()
	want := told(p.want, p.requests...)
	same(p.t, told(p.x, p.requests...), want)
	other, e := exec.New(p.store, p.want.shards, p.want.shard)
	answers(p.t, e, api.OK)
	same(p.t, told(other, p.requests...), want)
}

// stored ends the test if the disk has anything but what the Exec must tell.
func (p *site) stored() {
	p.t.Helper()
	store, e := kv.Open(p.disk, 0)
	answers(p.t, e, api.OK)
	x, e := exec.New(store, p.want.shards, p.want.shard)
	answers(p.t, e, api.OK)
	same(p.t, told(x, p.requests...), told(p.want, p.requests...))
}

// standing is what no refusal may change.
type standing struct {
	ops, made, commits int
	open               bool
	told               string
}

func (p *site) stands() standing {
	s := standing{ops: p.disk.Ops(), commits: p.store.Commits(), told: told(p.x, p.requests...)}
	if p.c != nil {
		s.made, s.open = p.c.Made(), p.c.Open()
	}
	return s
}

func (p *site) still(was standing) {
	p.t.Helper()
	now := p.stands()
	same(p.t, now.told, was.told)
	if now != was {
		p.t.Fatalf("%d operations, %d IDs, %d commits, open %t; want %d, %d, %d, %t", now.ops, now.made, now.commits, now.open, was.ops, was.made, was.commits, was.open)
	}
}

// commits commits an update that must be taken, and holds all that is told to the model.
func (p *site) commits(u api.Update) []api.Task {
	p.t.Helper()
	answers(p.t, p.want.refuses(u), api.OK)
	var want []api.Task
	commits, made := p.store.Commits(), p.c.Made()
	p.want, want = p.want.committed(u, p.c.Range(), made)
	got, e := p.x.Commit(p.c, u)
	answers(p.t, e, api.OK)
	if !slices.Equal(got, want) {
		p.t.Fatalf("the tasks are\n%+v\nwant\n%+v", got, want)
	}
	if p.store.Commits() != commits+1 {
		p.t.Fatalf("%d batches", p.store.Commits()-commits)
	}
	for _, task := range u.Tasks {
		if task.Kind != api.Message {
			made++
		}
	}
	if p.c.Made() != made {
		p.t.Fatalf("%d IDs were made, want %d", p.c.Made(), made)
	}
	p.holds()
	return got
}

// refuses tries an update that must be refused so, and changes nothing.
func (p *site) refuses(u api.Update, want api.Errno) {
	p.t.Helper()
	was := p.stands()
	if got, e := p.x.Commit(p.c, u); e != want || got != nil {
		p.t.Fatalf("answered %v, %d, want %d", got, e, want)
	}
	p.still(was)
}

// advances, drops, acks and passes must be taken.

func (p *site) advances(level api.ID, want int) {
	p.t.Helper()
	var many int
	var commits bool
	p.want, many, commits = p.want.advanced(level)
	if many != want {
		p.t.Fatalf("the model says %d", many)
	}
	was := p.store.Commits()
	got, e := p.x.Advance(p.c, level)
	answers(p.t, e, api.OK)
	if got != want || commits != (p.store.Commits() > was) {
		p.t.Fatalf("Advance(%v) is %d, want %d; %d batches", level, got, want, p.store.Commits()-was)
	}
	p.holds()
}

func (p *site) drops(id api.ID) {
	p.t.Helper()
	p.want, _ = p.want.dropped(id)
	answers(p.t, p.x.Drop(p.c, id), api.OK)
	p.holds()
}

func (p *site) acks(to, seq, want int) {
	p.t.Helper()
	p.want, _, _ = p.want.acked(to, seq)
	was := p.store.Commits()
	got, e := p.x.Acked(p.c, to, seq)
	answers(p.t, e, api.OK)
	if got != want || (want > 0) != (p.store.Commits() > was) {
		p.t.Fatalf("Acked(%d, %d) is %d, want %d; %d batches", to, seq, got, want, p.store.Commits()-was)
	}
	p.holds()
}

func (p *site) passes(from, seq int, back ...api.Mail) {
	p.t.Helper()
	p.want, _ = p.want.passed(from, seq, back)
	was := p.store.Commits()
	answers(p.t, p.x.Pass(p.c, from, seq, back), api.OK)
	if p.store.Commits() != was+1 {
		p.t.Fatalf("%d batches", p.store.Commits()-was)
	}
	p.holds()
}

// flowOf is the k-th workflow of a shard, of the cluster of four.
func flowOf(n, k int) string {
	for i := 0; ; i++ {
		name := fmt.Sprint("f", i)
		if ring.Shard(name, shards) != n {
			continue
		}
		if k == 0 {
			return name
		}
		k--
	}
}

// sized is a workflow of a shard whose name has so many bytes, and begins in this way.
func sized(n, bytes int, beginning string) string {
	for i := 0; ; i++ {
		tail := fmt.Sprint(i)
		name := beginning + strings.Repeat("x", bytes-len(beginning)-len(tail)) + tail
		if ring.Shard(name, shards) == n {
			return name
		}
	}
}

// grows is an update of a workflow by some events.
func grows(name string, was, more int, tasks ...api.Task) api.Update {
	u := api.Update{Flow: name, Expect: was, Tasks: tasks}
	u.State = api.State{Def: "w", ID: name, Parent: "p", ParentNode: "n", Status: api.Running, Text: fmt.Sprint("at ", was+more), Events: was + more}
	u.State.Nodes = []api.NodeState{{Status: api.Busy, Try: was, Text: "t"}, {}}
	u.State.Signals = []api.Signal{{Name: "s", Text: fmt.Sprint(more)}}
	for i := range more {
		u.Events = append(u.Events, api.Event{Kind: api.Kept, Node: "n", Text: fmt.Sprint("e", was+i), Number: i - 1})
	}
	return u
}

// asks is an update with a request.
func asks(u api.Update, request, answer string) api.Update {
	u.Request, u.Answer = request, answer
	return u
}

// of is an update of a mail.
func of(u api.Update, source, seq int) api.Update {
	u.Source, u.Seq = source, seq
	return u
}

func dispatch(node string) api.Task {
	return api.Task{Kind: api.Dispatch, Flow: flowOf(own, 0), Node: node, Try: 1}
}

func alarm(node string, at int) api.Task {
	return api.Task{Kind: api.Alarm, Flow: flowOf(own, 0), Node: node, Try: 2, At: at}
}

func mail(to, text string) api.Mail {
	return api.Mail{Kind: api.MailChild, To: to, From: "g", Node: "n", Name: "s", Text: text, Status: api.Done}
}

func message(to, text string) api.Task {
	return api.Task{Kind: api.Message, Flow: flowOf(own, 0), Node: "m", Mail: mail(to, text)}
}

// The chapter's runs and examples.

func TestRuns(t *testing.T) {
	p := lay(t)
	f, two := flowOf(own, 0), flowOf(2, 0)
	if got := p.commits(grows(f, 0, 1, dispatch("a"))); got[0].ID != 1+1i {
		t.Fatal(got)
	}
	p.refuses(grows(f, 0, 1, dispatch("a")), api.ErrOrder)
	u := grows(f, 1, 2)
	u.State.Events = 2
	p.refuses(u, api.ErrOrder)
	p.commits(grows(f, 1, 2))
	p.commits(grows(f, 3, 1, message(two, "x")))
	if got := p.x.Outbox(2); len(got) != 1 || got[0] != (api.Envelope{Kind: api.EnvMail, From: own, To: 2, Seq: 1, Mail: mail(two, "x")}) || p.x.Last(2) != 1 {
		t.Fatal(got)
	}
	p.acks(2, 1, 1)
	if got, e := p.x.Acked(p.c, 2, 2); got != 0 || e != api.ErrArg {
		t.Fatal(got, e)
	}
	p.refuses(of(grows(f, 4, 1), 3, 2), api.ErrOrder)
	p.commits(asks(grows(f, 4, 1), "r", "a"))
	if got, known := p.x.Answer(f, "r"); got != "a" || !known {
		t.Fatal(got, known)
	}
	p.advances(1+1i, 1)
	if got := p.x.Dispatches(); len(got) != 0 {
		t.Fatal(got)
	}
	p.stored()
}

func TestExamples(t *testing.T) {
	p := lay(t)
	f := flowOf(own, 0)
	p.commits(grows(f, 0, 2))
	p.commits(asks(grows(f, 2, 0), "r", "kept"))
	if got, known := p.x.Answer(f, "r"); got != "kept" || !known || len(p.x.Events(f)) != 2 {
		t.Fatal(got, known)
	}
	p.advances(1+5i, 0)
	p.advances(1+4i, 0)
	if p.x.Level() != 1+5i {
		t.Fatal(p.x.Level())
	}
}

// P10.1

func TestNew(t *testing.T) {
	s, _ := kv.Open(world.NewDisk(), 0)
	for _, c := range []struct {
		s             *kv.Store
		shards, shard int
		e             api.Errno
	}{
		{s, 1, 0, api.OK}, {s, 2, 0, api.OK}, {s, 2, 1, api.OK}, {s, 16, 0, api.OK}, {s, 16, 15, api.OK}, {s, 5, 4, api.OK},
		{nil, 1, 0, api.ErrArg}, {nil, 0, -1, api.ErrArg}, {nil, 16, 15, api.ErrArg},
		{s, 0, 0, api.ErrArg}, {s, 0, -1, api.ErrArg}, {s, -1, -2, api.ErrArg}, {s, 17, 0, api.ErrArg}, {s, 17, 16, api.ErrArg}, {s, 1 << 40, 3, api.ErrArg}, {s, -1 << 63, 0, api.ErrArg},
		{s, 1, 1, api.ErrArg}, {s, 1, -1, api.ErrArg}, {s, 16, 16, api.ErrArg}, {s, 16, -1, api.ErrArg}, {s, 5, 5, api.ErrArg}, {s, 5, 1<<63 - 1, api.ErrArg}, {s, 5, -1 << 63, api.ErrArg},
	} {
		x, e := exec.New(c.s, c.shards, c.shard)
		if e != c.e || (x != nil) != (e == api.OK) {
			t.Errorf("New(%t, %d, %d) is %v, %d; want %d", c.s != nil, c.shards, c.shard, x, e, c.e)
		}
	}
	if s.Commits() != 0 || s.Len() != 0 {
		t.Error("New has changed the store")
	}
}

func TestNothingOfANewStore(t *testing.T) {
	for _, n := range []int{1, 2, 16} {
		p := layOf(t, n, n-1)
		p.holds()
		if x := p.x; len(x.Flows())+len(x.Dispatches())+len(x.Alarms())+len(x.Events("f")) != 0 || x.Level() != 0 {
			t.Fatal("a new store has something")
		}
		for i := -2; i < 20; i++ {
			if len(p.x.Outbox(i)) != 0 || p.x.Last(i) != 0 || p.x.Mark(i) != 0 {
				t.Fatal("of shard", i)
			}
		}
	}
}

// P10.2

// Names that are no workflow's, and requests that nobody made.
func TestTellingOfWhatIsNot(t *testing.T) {
	p := lay(t)
	f := flowOf(own, 0)
	p.commits(asks(grows(f, 0, 1), "r", "a"))
	for _, name := range []string{"", "none", f + "/", f[:1], "a b", strings.Repeat("x", 256), strings.Repeat("x", 1<<17), "\xff", "\x00", flowOf(2, 0)} {
		if s, there := p.x.Load(name); there || fmt.Sprint(s) != fmt.Sprint(api.State{}) {
			t.Errorf("Load(%.20q) is %+v, %t", name, s, there)
		}
		if l := p.x.Events(name); len(l) != 0 {
			t.Errorf("Events(%.20q) are %+v", name, l)
		}
		if a, known := p.x.Answer(name, "r"); a != "" || known {
			t.Errorf("Answer(%.20q) is %q, %t", name, a, known)
		}
	}
	for _, request := range []string{"", "R", "r ", "rr", "\x00", strings.Repeat("r", 257), "a"} {
		if a, known := p.x.Answer(f, request); a != "" || known {
			t.Errorf("%.20q is %q, %t", request, a, known)
		}
	}
	for _, n := range []int{-1, 4, 5, 16, 255, 256, 1 << 52, 1<<63 - 1, -1 << 63} {
		if len(p.x.Outbox(n)) != 0 || p.x.Last(n) != 0 || p.x.Mark(n) != 0 {
			t.Error("of shard", n)
		}
	}
	p.holds()
}

// Workflows rise by bytes, whatever the order in which they came; names may begin alike for longer than a key is.
func TestFlowsRise(t *testing.T) {
	p := lay(t)
	long := strings.Repeat("a/b.c-d_", 31)
	names := []string{sized(own, 256, long), sized(own, 255, long), sized(own, 254, long), sized(own, 6, "-"), sized(own, 6, "a"), sized(own, 6, "Z"), sized(own, 6, "z"), sized(own, 7, "a."), sized(own, 7, "a/"), sized(own, 8, "9"), sized(own, 201, "k"), sized(own, 200, "k"), sized(own, 199, "k")}
	for i, name := range names {
		p.commits(asks(grows(name, 0, 1+i%3), "r", name))
	}
	for i, name := range names {
		p.commits(asks(grows(name, 1+i%3, 2), "q", fmt.Sprint(i)))
	}
	want := slices.Sorted(slices.Values(names))
	if got := p.x.Flows(); !slices.Equal(got, want) {
		t.Fatalf("%q\nwant\n%q", got, want)
	}
	p.stored()
}

// Many events stay in their order, from batch to batch.
func TestEventsInOrder(t *testing.T) {
	p := lay(t)
	f, g := flowOf(own, 0), flowOf(own, 1)
	for at := 0; at < 700; at += 70 {
		p.commits(grows(f, at, 70))
		p.commits(grows(g, at/10, 7))
	}
	for i, e := range p.x.Events(f) {
		if e.Text != fmt.Sprint("e", i) {
			t.Fatal(i, e)
		}
	}
	p.stored()
}

func TestAlarmsRise(t *testing.T) {
	p := lay(t)
	f := flowOf(own, 0)
	p.commits(grows(f, 0, 1, alarm("a", 9), alarm("b", 5), alarm("c", 9), alarm("d", api.MaxNumber), alarm("e", 0), alarm("f", 256), alarm("g", 255)))
	p.hold()
	p.commits(grows(f, 1, 1, alarm("h", 5), alarm("i", 9), alarm("j", 0), alarm("k", 5)))
	got := ""
	for _, task := range p.x.Alarms() {
		got += task.Node
	}
	if got != "ejbhkacigfd" {
		t.Fatal(got)
	}
}

func TestDispatchesRise(t *testing.T) {
	p := lay(t)
	f := flowOf(own, 0)
	for i := range 6 {
		var tasks []api.Task
		for range 60 {
			tasks = append(tasks, dispatch(fmt.Sprint("n", i)))
		}
		p.commits(grows(f, i, 1, tasks...))
		if i%2 == 1 {
			p.hold()
		}
	}
	list := p.x.Dispatches()
	if len(list) != 360 || list[0].ID != 1+1i || list[119].ID != 1+120i || list[120].ID != 2+1i || list[359].ID != 3+120i {
		t.Fatal(len(list), list[0], list[119], list[120])
	}
}

// Two Execs on one store tell the same; what one of them commits the other one goes on from.
func TestTwoExecsOnOneStore(t *testing.T) {
	p := lay(t)
	f := flowOf(own, 0)
	other, _ := exec.New(p.store, shards, own)
	for i := range 6 {
		p.x, other = other, p.x
		p.commits(asks(of(grows(f, i, 1, dispatch("a"), message(f, "x")), 3, i+1), "r", fmt.Sprint(i)))
	}
	p.x, other = other, p.x
	p.acks(own, 4, 4)
	p.x, other = other, p.x
	p.acks(own, 5, 1)
	p.advances(1+4i, 4)
	p.x, other = other, p.x
	p.advances(1+6i, 2)
	same(t, told(p.x, "r"), told(other, "r"))
}

// Stores of two disks, and of two numbers of one disk, know nothing of each other.
func TestStoresKnowNothingOfEachOther(t *testing.T) {
	p := lay(t)
	f := flowOf(own, 0)
	p.commits(grows(f, 0, 1, dispatch("a"), message(f, "x")))
	for _, store := range []*kv.Store{opened(t, p.disk, 1), opened(t, world.NewDisk(), 0)} {
		x, _ := exec.New(store, shards, own)
		same(t, told(x), told(model{shards: shards, shard: own}))
	}
}

func opened(t *testing.T, d *world.Disk, n int) *kv.Store {
	t.Helper()
	s, e := kv.Open(d, n)
	answers(t, e, api.OK)
	return s
}

func TestAllStoppedAnywhere(t *testing.T) {
	p := lay(t)
	for i := range 12 {
		p.commits(grows(flowOf(own, 11-i), 0, 1+i))
	}
	flows := p.x.Flows()
	all := p.x.All()
	for stop := range 14 {
		i := 0
		for name, s := range all {
			if name != flows[i] || s.ID != name {
				t.Fatal(i, name, s)
			}
			if i++; i > stop {
				break
			}
		}
		if i != min(stop+1, 12) {
			t.Fatal(stop, i)
		}
	}
	for name := range all { // one within the other
		i := 0
		for inner := range all {
			if inner != flows[i] {
				t.Fatal(inner)
			}
			i++
			if inner == name {
				break
			}
		}
	}
}

// All tells what stands when it is ranged over: not what stood when it was made, nor what is committed meanwhile.
func TestAllTellsWhatStandsWhenItIsRangedOver(t *testing.T) {
	p := lay(t)
	all := p.x.All()
	for range all {
		t.Fatal("a workflow")
	}
	p.commits(grows(flowOf(own, 0), 0, 1))
	p.commits(grows(flowOf(own, 1), 0, 1))
	for round := 1; round < 4; round++ {
		many := 0
		for name, s := range all {
			if many++; s.Events != round {
				t.Fatalf("%s has %d events in round %d", name, s.Events, round)
			}
			if many > 1 {
				continue
			}
			for i := range round + 1 {
				p.commits(grows(flowOf(own, i), round, 1))
			}
			p.commits(grows(flowOf(own, round+1), 0, round+1))
		}
		if many != round+1 {
			t.Fatal(round, many)
		}
	}
}

// R2

// spoil changes all that a list has, its spare room too.
func spoil[T any](list []T, by T) {
	list = list[:cap(list)]
	for i := range list {
		list[i] = by
	}
}

// spare is a list with room behind it.
func spare[T any](list []T, behind T) []T {
	return append(slices.Clone(list), behind, behind)[:len(list)]
}

func TestWhatIsHandedInIsNeitherChangedNorKept(t *testing.T) {
	p := lay(t)
	f := flowOf(own, 0)
	made := func() api.Update {
		u := asks(of(grows(f, 0, 3, dispatch("a"), message(flowOf(2, 0), "x"), alarm("b", 3)), 3, 1), "r", "a")
		u.Tasks[0].ID, u.Tasks[1].ID = 7+7i, 8+8i
		u.Events = spare(u.Events, api.Event{Kind: 99})
		u.Tasks = spare(u.Tasks, api.Task{Kind: 99})
		u.State.Nodes = spare(u.State.Nodes, api.NodeState{Try: 99})
		u.State.Signals = spare(u.State.Signals, api.Signal{Name: "99"})
		return u
	}
	text := func(u api.Update) string {
		return fmt.Sprintf("%+v %+v %+v %+v %+v", u, u.Events[:cap(u.Events)], u.Tasks[:cap(u.Tasks)], u.State.Nodes[:cap(u.State.Nodes)], u.State.Signals[:cap(u.State.Signals)])
	}
	u, want := made(), made()
	p.commits(u)
	if text(u) != text(want) {
		t.Fatalf("%s\nwant\n%s", text(u), text(want))
	}
	p.want = model{shards: shards, shard: own, flows: map[string]flow{}} // its lists are those that are spoiled now
	p.want, _ = p.want.committed(want, 1, 0)
	spoil(u.Events, api.Event{})
	spoil(u.Tasks, api.Task{})
	spoil(u.State.Nodes, api.NodeState{})
	spoil(u.State.Signals, api.Signal{})
	p.holds()
	back := spare([]api.Mail{mail(f, "1"), mail(flowOf(3, 0), "2")}, api.Mail{Kind: 99})
	was := fmt.Sprint(back[:4])
	p.passes(3, 2, back...)
	if fmt.Sprint(back[:4]) != was {
		t.Fatal(back[:4])
	}
	spoil(back, api.Mail{})
	p.holds()
	p.stored()
}

func TestWhatIsToldIsTheCallersOwn(t *testing.T) {
	p := lay(t)
	f := flowOf(own, 0)
	tasks := p.commits(asks(grows(f, 0, 3, dispatch("a"), dispatch("b"), alarm("c", 1), alarm("d", 1), message(f, "x"), message(f, "y")), "r", "a"))
	p.commits(grows(flowOf(own, 1), 0, 1))
	spoil(tasks, api.Task{})
	p.holds()
	for range 2 {
		s, _ := p.x.Load(f)
		spoil(s.Nodes, api.NodeState{Try: 9})
		spoil(s.Signals, api.Signal{})
		spoil(p.x.Events(f), api.Event{})
		spoil(p.x.Flows(), "")
		spoil(p.x.Dispatches(), api.Task{})
		spoil(p.x.Alarms(), api.Task{})
		spoil(p.x.Outbox(own), api.Envelope{})
		for _, s := range p.x.All() {
			spoil(s.Nodes, api.NodeState{Try: 9})
			spoil(s.Signals, api.Signal{})
		}
		p.holds()
	}
}
