package history_test

import (
	"fmt"
	"math/rand"
	"regexp"
	"slices"
	"strings"
	"testing"

	"tiller/api"
	"tiller/dag"
)

// The chapter's words told once more, by other means: how a workflow stands is read out of its events alone, each time anew, and nothing is kept.

// past is a definition, a workflow's name, and its events, which all fit.
type past struct {
	d      api.Def
	flow   string
	events []api.Event
}

// behind is the past and some more events.
func (p past) behind(more ...api.Event) past {
	p.events = slices.Concat(p.events, more)
	return p
}

// latest is the last event of one of these kinds, and, unless it is empty, of that node.
func (p past) latest(node string, kinds ...int) api.Event {
	for _, e := range slices.Backward(p.events) {
		if slices.Contains(kinds, e.Kind) && (node == "" || e.Node == node) {
			return e
		}
	}
	return api.Event{}
}

// status is the workflow's.
func (p past) status() int {
	if e := p.latest("", api.Closed); e.Kind != 0 {
		return e.Number
	}
	return min(len(p.events), 1)
}

// node is how a node stands: what happened to it last says all but the try.
func (p past) node(name string) api.NodeState {
	try := p.latest(name, api.Taken).Number
	e := p.latest(name, api.Scheduled, api.Taken, api.Completed, api.Retried, api.Failed, api.TimerSet, api.Fired, api.ChildAsked, api.ChildDone, api.Awaited, api.Received, api.Sent)
	switch e.Kind {
	case 0:
		return api.NodeState{}
	case api.Scheduled, api.Retried:
		return api.NodeState{Status: api.Ready, Try: try}
	case api.Taken, api.TimerSet, api.ChildAsked, api.Awaited:
		return api.NodeState{Status: api.Busy, Try: try}
	case api.Failed:
		return api.NodeState{Status: api.Bad, Try: try, Text: e.Text}
	case api.Fired, api.Sent:
		return api.NodeState{Status: api.Over, Try: try}
	}
	return api.NodeState{Status: api.Over, Try: try, Text: e.Text}
}

// of is the node of a name.
func (p past) of(name string) api.Node {
	for _, n := range p.d.Nodes {
		if n.Name == name {
			return n
		}
	}
	return api.Node{}
}

// signals are those that are kept: each Received with the number 1 takes the first of its signal.
func (p past) signals() []api.Signal {
	var list []api.Signal
	for _, e := range p.events {
		switch {
		case e.Kind == api.Kept:
			list = append(list, api.Signal{Name: e.Node, Text: e.Text})
		case e.Kind == api.Received && e.Number == 1:
			i := slices.IndexFunc(list, func(s api.Signal) bool { return s.Name == p.of(e.Node).Arg })
			list = slices.Delete(list, i, i+1)
		}
	}
	return list
}

// state is the state that the events tell.
func (p past) state() api.State {
	s := api.State{ID: p.flow, Events: len(p.events), Status: p.status(), Text: p.latest("", api.Closed).Text, Signals: p.signals()}
	if len(p.events) > 0 {
		s.Def, s.Parent, s.ParentNode = p.d.Name, p.events[0].Text, p.events[0].Node
		for _, n := range p.d.Nodes {
			s.Nodes = append(s.Nodes, p.node(n.Name))
		}
	}
	return s
}

// refusal is an error that an input may get.
type refusal struct {
	e       api.Errno
	applies bool
}

var rightName = regexp.MustCompile(`\A[A-Za-z0-9._-]{1,64}\z`)

// refusals are those of an input in the chapter's order.
func (p past) refusals(in api.Input) []refusal {
	if in.Kind == api.InStart {
		return []refusal{{api.ErrThere, p.status() != 0}}
	}
	n, s := p.of(in.Node), p.node(in.Node)
	large := refusal{api.ErrLarge, len(in.Text) > 256}
	first := []refusal{{api.ErrNone, p.status() == 0}, {api.ErrClosed, p.status() != 1}, {api.ErrArg, in.Kind < 1 || in.Kind > 8}}
	var more []refusal
	switch in.Kind {
	case api.InSignal:
		waits := p.first(func(n api.Node) bool {
			return n.Kind == api.Wait && n.Arg == in.Name && p.node(n.Name).Status == api.Busy
		})
		more = []refusal{{api.ErrName, !rightName.MatchString(in.Name)}, large, {api.ErrFull, waits == "" && len(p.signals()) >= 32}}
	case api.InTake:
		more = []refusal{{api.ErrNone, n.Kind != api.Activity}, {api.ErrState, s.Status != api.Ready}}
	case api.InComplete, api.InFail:
		more = []refusal{{api.ErrNone, n.Kind != api.Activity}, {api.ErrState, s.Status != api.Busy}, {api.ErrState, s.Try != in.Try}, large}
	case api.InFire:
		more = []refusal{{api.ErrNone, n.Kind != api.Activity && n.Kind != api.Timer}, {api.ErrState, s.Status != api.Busy}, {api.ErrState, n.Kind == api.Activity && s.Try != in.Try}}
	case api.InChild:
		more = []refusal{{api.ErrNone, n.Kind != api.Child}, {api.ErrState, s.Status != api.Busy}}
	case api.InCancel:
		more = []refusal{large}
	}
	return append(first, more...)
}

// first is the name of the first node that is so, or empty.
func (p past) first(so func(n api.Node) bool) string {
	if i := slices.IndexFunc(p.d.Nodes, so); i >= 0 {
		return p.d.Nodes[i].Name
	}
	return ""
}

// step is what Step must answer, but for the state.
func (p past) step(in api.Input) ([]api.Event, []api.Task, api.Errno) {
	for _, r := range p.refusals(in) {
		if r.applies {
			return nil, nil, r.e
		}
	}
	had := len(p.events)
	if in.Kind == api.InStart {
		p.flow = in.Name
	}
	p, tasks := p.does(in)
	for i := range tasks {
		tasks[i].Flow = p.flow
	}
	return p.events[had:], tasks, api.OK
}

// does is the past behind an input that is not refused, and its tasks.
func (p past) does(in api.Input) (past, []api.Task) {
	n := p.of(in.Node)
	switch in.Kind {
	case api.InStart:
		return p.behind(api.Event{Kind: api.Started, Node: in.ParentNode, Text: in.Parent}).on(in.Now)
	case api.InSignal:
		wait := p.first(func(n api.Node) bool {
			return n.Kind == api.Wait && n.Arg == in.Name && p.node(n.Name).Status == api.Busy
		})
		if wait != "" {
			return p.behind(api.Event{Kind: api.Received, Node: wait, Text: in.Text}).on(in.Now)
		}
		return p.behind(api.Event{Kind: api.Kept, Node: in.Name, Text: in.Text}), nil
	case api.InTake:
		try := p.node(in.Node).Try + 1
		p = p.behind(api.Event{Kind: api.Taken, Node: in.Node, Number: try})
		if n.Delay == 0 {
			return p, nil
		}
		return p, []api.Task{{Kind: api.Alarm, Node: in.Node, Try: try, At: in.Now + n.Delay}}
	case api.InComplete:
		return p.behind(api.Event{Kind: api.Completed, Node: in.Node, Text: in.Text}).on(in.Now)
	case api.InFire:
		if n.Kind == api.Timer {
			return p.behind(api.Event{Kind: api.Fired, Node: in.Node}).on(in.Now)
		}
		return p.does(api.Input{Kind: api.InFail, Node: in.Node, Try: in.Try, Text: "timeout", Now: in.Now})
	case api.InFail:
		if in.Try < n.Tries {
			return p.behind(api.Event{Kind: api.Retried, Node: in.Node, Text: in.Text, Number: in.Try}), []api.Task{{Kind: api.Dispatch, Node: in.Node, Try: in.Try + 1}}
		}
		return p.behind(api.Event{Kind: api.Failed, Node: in.Node, Text: in.Text}).closed(api.Broken, in.Text)
	case api.InChild:
		if in.Status == api.Done {
			return p.behind(api.Event{Kind: api.ChildDone, Node: in.Node, Text: in.Text}).on(in.Now)
		}
		return p.behind(api.Event{Kind: api.Failed, Node: in.Node, Text: in.Text}).closed(api.Broken, in.Text)
	}
	return p.closed(api.Canceled, in.Text)
}

// on is the past behind going on, one node at a time, and the tasks.
func (p past) on(time int) (past, []api.Task) {
	over := func(name string) bool { return p.node(name).Status == api.Over }
	name := p.first(func(n api.Node) bool {
		return p.node(n.Name).Status == api.Idle && !slices.ContainsFunc(n.After, func(name string) bool { return !over(name) })
	})
	if name == "" {
		for _, n := range p.d.Nodes {
			if !over(n.Name) {
				return p, nil
			}
		}
		return p.closed(api.Done, p.node(p.d.Nodes[len(p.d.Nodes)-1].Name).Text)
	}
	if n := p.of(name); n.Kind == api.Child && len(p.flow+"/"+name) > 256 {
		return p.behind(api.Event{Kind: api.Failed, Node: name, Text: "long"}).closed(api.Broken, "long")
	}
	e, tasks := p.beginning(p.of(name), time)
	p, more := p.behind(e).on(time)
	return p, append(tasks, more...)
}

// beginning is how a node begins.
func (p past) beginning(n api.Node, time int) (api.Event, []api.Task) {
	mail := api.Mail{From: p.flow, Node: n.Name, Name: n.Arg}
	switch n.Kind {
	case api.Activity:
		return api.Event{Kind: api.Scheduled, Node: n.Name}, []api.Task{{Kind: api.Dispatch, Node: n.Name, Try: 1}}
	case api.Timer:
		return api.Event{Kind: api.TimerSet, Node: n.Name, Number: time + n.Delay}, []api.Task{{Kind: api.Alarm, Node: n.Name, At: time + n.Delay}}
	case api.Child:
		mail.Kind, mail.To = api.MailStart, p.flow+"/"+n.Name
		return api.Event{Kind: api.ChildAsked, Node: n.Name}, []api.Task{{Kind: api.Message, Mail: mail}}
	case api.Send:
		mail.Kind, mail.To = api.MailSignal, n.To
		return api.Event{Kind: api.Sent, Node: n.Name}, []api.Task{{Kind: api.Message, Mail: mail}}
	}
	for _, s := range p.signals() {
		if s.Name == n.Arg {
			return api.Event{Kind: api.Received, Node: n.Name, Text: s.Text, Number: 1}, nil
		}
	}
	return api.Event{Kind: api.Awaited, Node: n.Name}, nil
}

// closed is the past behind the end, and the tasks.
func (p past) closed(status int, text string) (past, []api.Task) {
	var tasks []api.Task
	for _, n := range p.d.Nodes {
		if n.Kind == api.Child && p.node(n.Name).Status == api.Busy {
			tasks = append(tasks, api.Task{Kind: api.Message, Mail: api.Mail{Kind: api.MailCancel, To: p.flow + "/" + n.Name, From: p.flow, Node: n.Name, Text: text}})
		}
	}
	if start := p.events[0]; start.Text != "" {
		tasks = append(tasks, api.Task{Kind: api.Message, Mail: api.Mail{Kind: api.MailChild, To: start.Text, From: p.flow, Node: start.Node, Text: text, Status: status}})
	}
	return p.behind(api.Event{Kind: api.Closed, Text: text, Number: status}), tasks
}

// Definitions and inputs by chance.

func pick[T any](r *rand.Rand, list ...T) T { return list[r.Intn(len(list))] }

// rightDef is a definition that Check takes, its nodes in any order; signals have the names of nodes, too.
func rightDef(t testing.TB, r *rand.Rand) api.Def {
	t.Helper()
	many := 1 + r.Intn(7)
	if r.Intn(12) == 0 {
		many = 1 + r.Intn(api.MaxNodes)
	}
	often := r.Float64()
	var d api.Def
	d.Name = pick(r, "w", "v", "n0")
	for i := range many {
		n := api.Node{Name: fmt.Sprint("n", i), Kind: 1 + r.Intn(5), Arg: pick(r, "s", "s", "r", "n0", "n1")}
		switch n.Kind {
		case api.Activity:
			n.Tries, n.Delay = pick(r, 1, 1, 2, 3, 10), pick(r, 0, 0, 1, 7, api.MaxDelay)
		case api.Timer:
			n.Arg, n.Delay = "", pick(r, 0, 1, 9, api.MaxDelay)
		case api.Send:
			n.To = pick(r, "x", "f", "x/y", "f/n0")
		}
		for j := range i {
			if r.Float64() < often {
				n.After = append(n.After, fmt.Sprint("n", j))
			}
		}
		d.Nodes = append(d.Nodes, n)
	}
	r.Shuffle(len(d.Nodes), func(i, j int) { d.Nodes[i], d.Nodes[j] = d.Nodes[j], d.Nodes[i] })
	if i, e := dag.Check(d); e != api.OK {
		t.Fatalf("%+v: %d, %d", d, i, e)
	}
	return d
}

// likely is an input of which many are taken.
func likely(r *rand.Rand, d api.Def, s api.State) api.Input {
	in := api.Input{Text: pick(r, "", "x", "y", strings.Repeat("t", 256)), Now: pick(r, 0, 1, 100, api.MaxTime)}
	if s.Status == 0 {
		in.Kind, in.Name = api.InStart, pick(r, "f", "f", "g/h", strings.Repeat("n", 252), strings.Repeat("n", 253), strings.Repeat("n", 254))
		in.Parent, in.ParentNode = pick(r, "", "p"), pick(r, "", "n0", "n")
		return in
	}
	i := r.Intn(len(d.Nodes))
	if busy := slices.IndexFunc(s.Nodes, func(n api.NodeState) bool { return n.Status == api.Busy || n.Status == api.Ready }); busy >= 0 && r.Intn(2) == 0 {
		i = busy
	}
	n := d.Nodes[i]
	in.Node, in.Try = n.Name, s.Nodes[i].Try
	if r.Intn(8) == 0 {
		in.Kind, in.Name = api.InSignal, pick(r, "s", "r", "n0", "n1", "other")
		return in
	}
	switch n.Kind {
	case api.Activity:
		in.Kind = pick(r, api.InComplete, api.InComplete, api.InFail, api.InFire)
		if s.Nodes[i].Status == api.Ready {
			in.Kind = api.InTake
		}
	case api.Timer:
		in.Kind, in.Try = api.InFire, r.Intn(3)
	case api.Child:
		in.Kind, in.Status = api.InChild, pick(r, api.Done, api.Done, api.Done, api.Done, api.Broken, api.Canceled, 0)
	default:
		in.Kind, in.Name = api.InSignal, n.Arg
	}
	return in
}

// spoiled is an input with something changed.
func spoiled(r *rand.Rand, in api.Input) api.Input {
	switch r.Intn(7) {
	case 0:
		in.Kind = r.Intn(12) - 1
	case 1:
		in.Kind = pick(r, api.InStart, api.InCancel, 0, 9, -1<<63)
	case 2:
		in.Node = pick(r, "", "n0", "n1", "nobody")
	case 3:
		in.Try += pick(r, -1, 1)
	case 4:
		in.Text = strings.Repeat("t", 257)
	case 5:
		in.Name = pick(r, "", "a/b", strings.Repeat("n", 64), strings.Repeat("n", 65))
	case 6:
		in.Status = r.Intn(6)
	}
	return in
}

// Whatever happens to a workflow, Step answers what the chapter says, and its state is the fold of the events (P9.2, P9.3, P9.4, P9.6).
func TestManyRuns(t *testing.T) {
	r := rand.New(rand.NewSource(91))
	seen := map[string]int{}
	for range 4000 {
		f := &flow{t: t, d: rightDef(t, r)}
		for range 10 + r.Intn(40) {
			in := likely(r, f.d, f.s)
			for r.Intn(6) == 0 {
				in = spoiled(r, in)
			}
			for _, part := range strings.Split(f.does(in), "; ") {
				words := strings.Fields(part)
				if words[0] == "Message" {
					words = words[1:]
				}
				seen[words[0]]++
			}
			if f.s.Status > api.Running && r.Intn(3) == 0 {
				break
			}
		}
		seen[fmt.Sprint("status ", f.s.Status)]++
	}
	for _, what := range strings.Fields("Started Scheduled Taken Completed Retried Failed TimerSet Fired ChildAsked ChildDone Awaited Received Kept Sent Closed Dispatch Alarm start child signal cancel ErrArg ErrNone ErrThere ErrLarge ErrClosed ErrState ErrName") {
		if seen[what] < 50 {
			t.Errorf("%s was told only %d times: %v", what, seen[what], seen)
		}
	}
	for status := api.Running; status <= api.Canceled; status++ {
		if seen[fmt.Sprint("status ", status)] < 50 {
			t.Errorf("only %d workflows came to %d", seen[fmt.Sprint("status ", status)], status)
		}
	}
}

// Likewise, with so many signals that no more are kept.
func TestManyRunsFullOfSignals(t *testing.T) {
	r := rand.New(rand.NewSource(92))
	full, received := 0, 0
	for range 800 {
		f := &flow{t: t, d: rightDef(t, r)}
		f.then(start("f"))
		for i := range 45 {
			if got := f.does(signal(pick(r, "s", "r", "n0", "n1", "other"), fmt.Sprint(i))); got == "ErrFull" {
				full++
			}
		}
		for range 40 {
			got := f.does(likely(r, f.d, f.s))
			received += strings.Count(got, "Received")
		}
	}
	if full < 100 || received < 100 {
		t.Fatal(full, received)
	}
}
