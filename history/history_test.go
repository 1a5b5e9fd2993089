package history_test

import (
	"fmt"
	"slices"
	"strings"
	"testing"

	"tiller/api"
	"tiller/dag"
	"tiller/history"
)

// Workflows on their way, told in short.

// def is a definition of the name w with these lines.
func def(t testing.TB, lines ...string) api.Def {
	t.Helper()
	d, line, e := dag.Parse("workflow w\n" + strings.Join(lines, "\n"))
	if e != api.OK {
		t.Fatal(lines, line, e)
	}
	return d
}

// The inputs, at the time 100.

const now = 100

func start(name string) api.Input { return api.Input{Kind: api.InStart, Name: name, Now: now} }
func startUnder(name, parent, node string) api.Input {
	return api.Input{Kind: api.InStart, Name: name, Parent: parent, ParentNode: node, Now: now}
}
func signal(name, text string) api.Input {
	return api.Input{Kind: api.InSignal, Name: name, Text: text, Now: now}
}
func take(node string) api.Input { return api.Input{Kind: api.InTake, Node: node, Now: now} }
func complete(node string, try int, text string) api.Input {
	return api.Input{Kind: api.InComplete, Node: node, Try: try, Text: text, Now: now}
}
func fail(node string, try int, text string) api.Input {
	return api.Input{Kind: api.InFail, Node: node, Try: try, Text: text, Now: now}
}
func fire(node string, try int) api.Input {
	return api.Input{Kind: api.InFire, Node: node, Try: try, Now: now}
}
func child(node string, status int, text string) api.Input {
	return api.Input{Kind: api.InChild, Node: node, Status: status, Text: text, Now: now}
}
func cancel(text string) api.Input { return api.Input{Kind: api.InCancel, Text: text, Now: now} }

// at is an input at another time.
func at(in api.Input, time int) api.Input {
	in.Now = time
	return in
}

// named is a number's word, or the number.
func named(words string, n int) string {
	list := strings.Fields(words)
	if n >= 0 && n < len(list) {
		return list[n]
	}
	return fmt.Sprint("kind", n)
}

// shortEvent is an event in short: its kind, the node, the text in quotes, the number behind #; zero fields are left out.
func shortEvent(e api.Event) string {
	out := named("none Started Scheduled Taken Completed Retried Failed TimerSet Fired ChildAsked ChildDone Awaited Received Kept Sent Closed", e.Kind)
	if e.Node != "" {
		out += " " + e.Node
	}
	if e.Text != "" {
		out += fmt.Sprintf(" %q", e.Text)
	}
	if e.Number != 0 {
		out += fmt.Sprint(" #", e.Number)
	}
	return out
}

// shortTask is a task in short, but for its Flow and ID: the kind, the node, the try behind #, the time behind @, the mail.
func shortTask(k api.Task) string {
	out := named("none Dispatch Alarm Message", k.Kind)
	if k.Node != "" {
		out += " " + k.Node
	}
	if k.Try != 0 {
		out += fmt.Sprint(" #", k.Try)
	}
	if k.At != 0 {
		out += fmt.Sprint(" @", k.At)
	}
	if m := k.Mail; m != (api.Mail{}) {
		out += fmt.Sprintf(" %s to=%s from=%s node=%s name=%s %q #%d", named("none start child signal cancel", m.Kind), m.To, m.From, m.Node, m.Name, m.Text, m.Status)
	}
	return out
}

// short tells events and tasks, or the refusal.
func short(events []api.Event, tasks []api.Task, e api.Errno) string {
	if e != api.OK {
		return named("OK ErrArg ErrForm ErrIO ErrDead ErrFence ErrNone ErrThere ErrFull ErrLarge ErrMany ErrClosed ErrState ErrOwner ErrOrder ErrLoop ErrTwice ErrName", int(e))
	}
	var out []string
	for _, x := range events {
		out = append(out, shortEvent(x))
	}
	for _, x := range tasks {
		out = append(out, shortTask(x))
	}
	return strings.Join(out, "; ")
}

// sameState says whether two states are one; no list and an empty one are one.
func sameState(a, b api.State) bool {
	rest := a.Def == b.Def && a.ID == b.ID && a.Parent == b.Parent && a.ParentNode == b.ParentNode && a.Status == b.Status && a.Text == b.Text && a.Events == b.Events
	return rest && slices.Equal(a.Nodes, b.Nodes) && slices.Equal(a.Signals, b.Signals)
}

// zero says whether a state is the zero one.
func zero(s api.State) bool { return sameState(s, api.State{}) }

// flow is a workflow under way, and all events so far.
type flow struct {
	t   testing.TB
	d   api.Def
	s   api.State
	all []api.Event
}

// begun is a workflow of the name f that was started.
func begun(t testing.TB, lines ...string) *flow {
	t.Helper()
	f := &flow{t: t, d: def(t, lines...)}
	f.does(start("f"))
	return f
}

// again is the workflow as it stands, to go another way.
func (f *flow) again() *flow {
	return &flow{t: f.t, d: f.d, s: f.s, all: slices.Clone(f.all)}
}

// does an input, and holds the answer to what is promised of all of them: refusals change nothing, what was closed stays so (P9.6), and all the rest is as the oracle says.
func (f *flow) does(in api.Input) string {
	f.t.Helper()
	events, next, tasks, e := history.Step(f.d, f.s, in)
	got := short(events, tasks, e)
	wantEvents, wantTasks, wantE := past{f.d, f.s.ID, f.all}.step(in)
	if want := short(wantEvents, wantTasks, wantE); got != want {
		f.t.Fatalf("%+v\nbehind %+v: %+v\n%s\nwant\n%s", f.d, f.s, in, got, want)
	}
	if e != api.OK {
		if len(events) != 0 || len(tasks) != 0 || !zero(next) {
			f.t.Fatalf("%+v is refused (%d), with %v, %v, %+v", in, e, events, tasks, next)
		}
		return got
	}
	if f.s.Status > api.Running {
		f.t.Fatalf("%+v is done by a workflow that is closed: %s", in, got)
	}
	for _, k := range tasks {
		if k.ID != 0 || k.Flow != next.ID {
			f.t.Fatalf("%+v: the task %+v", in, k)
		}
	}
	f.s, f.all = next, append(f.all, events...)
	f.holds()
	return got
}

// holds holds a state to P9.6.
func (f *flow) holds() {
	f.t.Helper()
	fold, e := history.Fold(f.d, f.s.ID, f.all)
	if e != api.OK || !sameState(fold, f.s) || !sameState(f.s, past{f.d, f.s.ID, f.all}.state()) {
		f.t.Fatalf("%+v\nthe fold is %+v, %d, of %v\nthe state is %+v\nwant %+v", f.d, fold, e, f.all, f.s, past{f.d, f.s.ID, f.all}.state())
	}
	under := slices.ContainsFunc(f.s.Nodes, func(n api.NodeState) bool { return n.Status == api.Busy || n.Status == api.Ready })
	if f.s.Status == api.Running && !under {
		f.t.Fatalf("%+v\nis Running, and does nothing: %+v", f.d, f.s)
	}
}

// must does an input, and wants just that.
func (f *flow) must(in api.Input, want string) *flow {
	f.t.Helper()
	if got := f.does(in); got != want {
		f.t.Fatalf("%+v\n%s\nwant\n%s", in, got, want)
	}
	return f
}

// then does inputs that must not be refused.
func (f *flow) then(list ...api.Input) *flow {
	f.t.Helper()
	for _, in := range list {
		if got := f.does(in); strings.HasPrefix(got, "Err") {
			f.t.Fatalf("%+v: %s", in, got)
		}
	}
	return f
}

// The chapter's runs and examples.

func TestRuns(t *testing.T) {
	lines := []string{"a activity q tries 2", "b wait s after a"}
	f := &flow{t: t, d: def(t, lines...)}
	f.must(start("f"), "Started; Scheduled a; Dispatch a #1")
	if history.Count(f.s) != 0+2i {
		t.Fatal(history.Count(f.s))
	}
	g := f.again()
	f.must(take("a"), "Taken a #1")
	f.again().must(complete("a", 2, ""), "ErrState")
	f.must(fail("a", 1, "x"), `Retried a "x" #1; Dispatch a #2`)
	f.must(take("a"), "Taken a #2")
	f.must(fail("a", 2, "y"), `Failed a "y"; Closed "y" #3`)
	g.must(signal("s", "hi"), `Kept s "hi"`)
	g.then(take("a")).must(complete("a", 1, "r"), `Completed a "r"; Received b "hi" #1; Closed "hi" #2`)
	p := &flow{t: t, d: def(t, lines...)}
	p.must(startUnder("f", "p", "n"), `Started n "p"; Scheduled a; Dispatch a #1`)
	p.must(cancel("c"), `Closed "c" #4; Message child to=p from=f node=n name= "c" #4`)
}

func TestExamples(t *testing.T) {
	send := &flow{t: t, d: def(t, "a send x/y s")}
	send.must(start("f"), `Started; Sent a; Closed #2; Message signal to=x/y from=f node=a name=s "" #0`)
	if _, e := history.Apply(send.d, api.State{}, api.Event{Kind: api.Closed, Number: api.Done}); e != api.ErrState {
		t.Fatal(e)
	}
}

// P9.5

func TestOpen(t *testing.T) {
	f := begun(t, "a activity q", "t timer 5 after a", "b activity q after t", "w wait s after b", "c child v after w", "z wait s after c")
	open := func(want bool) {
		t.Helper()
		if got := history.Open(f.d, f.s); got != want {
			t.Fatalf("%v: %+v", got, f.s)
		}
	}
	for _, x := range []struct {
		in   api.Input
		want bool
	}{
		{take("a"), false},
		{complete("a", 1, ""), true}, // a Busy Timer
		{fire("t", 0), false},        // a Timer that is Over
		{take("b"), false},
		{complete("b", 1, ""), true}, // a Busy Wait
		{signal("r", ""), true},
		{signal("s", ""), false}, // a Busy Child
		{child("c", api.Done, ""), true},
		{cancel(""), false}, // the Wait is Busy still
	} {
		f.then(x.in)
		open(x.want)
	}
	if f.s.Nodes[5].Status != api.Busy {
		t.Fatal(f.s)
	}
	f.s = api.State{}
	open(false)
	f = begun(t, "a activity q", "t timer 5")
	open(true)
	f.s.Status = 0
	open(false)
	f.s.Status = api.Done
	open(false)
}

func TestCount(t *testing.T) {
	f := begun(t, "a activity q", "b activity q", "c wait s", "x send f s after c")
	for _, x := range []struct {
		in   api.Input
		want complex128
	}{
		{take("b"), 0 + 4i},
		{complete("b", 1, ""), 1 + 3i},
		{signal("s", ""), 3 + 1i},
		{take("a"), 3 + 1i},
		{fail("a", 1, ""), 3 + 1i}, // Bad is not Over
	} {
		f.then(x.in)
		if got := history.Count(f.s); got != x.want {
			t.Fatalf("%v, want %v: %+v", got, x.want, f.s)
		}
	}
	if got := history.Count(api.State{}); got != 0 {
		t.Fatal(got)
	}
	nodes := []api.NodeState{{Status: api.Idle}, {Status: api.Ready}, {Status: api.Busy}, {Status: api.Over}, {Status: api.Bad}, {Status: api.Over}}
	for _, status := range []int{0, api.Running, api.Broken} {
		if got := history.Count(api.State{Status: status, Nodes: nodes}); got != 2+4i {
			t.Fatal(got)
		}
	}
}

func TestWords(t *testing.T) {
	for i, want := range []string{"none", "running", "done", "broken", "canceled", "none", "none"} {
		if got := history.Words(i); got != want {
			t.Fatalf("%d: %q, want %q", i, got, want)
		}
	}
	for _, status := range []int{-1, 99, -1 << 63, 1<<63 - 1, 1<<32 + 1} {
		if got := history.Words(status); got != "none" {
			t.Fatalf("%d: %q", status, got)
		}
	}
}
