package history_test

import (
	"fmt"
	"slices"
	"strings"
	"testing"

	"tiller/api"
	"tiller/history"
)

// P9.1

// five is a definition with a node of each kind.
func five(t testing.TB) api.Def {
	return def(t, "a activity q tries 3", "t timer 5", "c child v", "w wait s", "x send f s")
}

// happen are the events of these kinds for a node, each with the text old.
func happen(node string, kinds ...int) []api.Event {
	var list []api.Event
	for _, kind := range kinds {
		list = append(list, api.Event{Kind: kind, Node: node, Text: "old"})
	}
	return list
}

// standing is a node that was brought somewhere by events.
type standing struct {
	what string // its kind and status
	i    int
	node string
	way  []api.Event
}

// standings are the nodes of five in every status that each of them can have.
func standings() []standing {
	return []standing{
		{"activity idle", 0, "a", nil},
		{"activity ready", 0, "a", happen("a", api.Scheduled)},
		{"activity busy", 0, "a", happen("a", api.Scheduled, api.Taken)},
		{"activity over", 0, "a", happen("a", api.Scheduled, api.Taken, api.Completed)},
		{"activity bad", 0, "a", happen("a", api.Scheduled, api.Taken, api.Failed)},
		{"timer idle", 1, "t", nil},
		{"timer busy", 1, "t", happen("t", api.TimerSet)},
		{"timer over", 1, "t", happen("t", api.TimerSet, api.Fired)},
		{"timer bad", 1, "t", happen("t", api.TimerSet, api.Failed)},
		{"child idle", 2, "c", nil},
		{"child busy", 2, "c", happen("c", api.ChildAsked)},
		{"child over", 2, "c", happen("c", api.ChildAsked, api.ChildDone)},
		{"child bad", 2, "c", happen("c", api.ChildAsked, api.Failed)},
		{"wait idle", 3, "w", nil},
		{"wait busy", 3, "w", happen("w", api.Awaited)},
		{"wait over", 3, "w", happen("w", api.Awaited, api.Received)},
		{"wait bad", 3, "w", happen("w", api.Awaited, api.Failed)},
		{"send idle", 4, "x", nil},
		{"send over", 4, "x", happen("x", api.Sent)},
	}
}

// becomes is the chapter's table: which event fits where, and what becomes of the node. Of those not here none fits.
const becomes = `
Scheduled: activity idle -> ready
Taken: activity ready -> busy try
Retried: activity busy -> ready
Completed: activity busy -> over text
Failed: activity busy -> bad text
Failed: timer busy -> bad text
Failed: child busy -> bad text
Failed: wait busy -> bad text
Failed: child idle -> bad text
TimerSet: timer idle -> busy
Fired: timer busy -> over
ChildAsked: child idle -> busy
ChildDone: child busy -> over text
Awaited: wait idle -> busy
Received #0: wait busy -> over text
Received #1: wait idle -> over text
Sent: send idle -> over
`

// wanted is what becomes of a node by an event, as the table says; false, if it doesn't fit.
func wanted(e api.Event, what string, was api.NodeState) (api.NodeState, bool) {
	kind := shortEvent(api.Event{Kind: e.Kind})
	if e.Kind == api.Received {
		kind += fmt.Sprint(" #", e.Number)
	}
	_, rest, ok := strings.Cut(becomes, "\n"+kind+": "+what+" -> ")
	if !ok {
		return api.NodeState{}, false
	}
	line, _, _ := strings.Cut(rest, "\n")
	words := strings.Fields(line)
	was.Status = slices.Index([]string{"idle", "ready", "busy", "over", "bad"}, words[0])
	if slices.Contains(words, "text") {
		was.Text = e.Text
	}
	if slices.Contains(words, "try") {
		was.Try = e.Number
	}
	return was, true
}

// hold applies an event, and wants that state, or, if it doesn't fit, ErrState and the one ahead.
func hold(t *testing.T, d api.Def, s api.State, e api.Event, want api.State, fits bool) {
	t.Helper()
	got, refused := history.Apply(d, s, e)
	wantE := api.OK
	if fits {
		want.Events = s.Events + 1
	} else {
		want, wantE = s, api.ErrState
	}
	if refused != wantE || !sameState(got, want) {
		t.Fatalf("%+v of %+v\nis %+v, %d\nwant %+v, %d", e, s, got, refused, want, wantE)
	}
}

// Every event for every node, however it stands; with its signal kept, and without it.
func TestEventsOfNodes(t *testing.T) {
	d := five(t)
	fitted := map[string]int{}
	for _, x := range standings() {
		for _, signals := range [][]api.Event{nil, happen("s", api.Kept), happen("r", api.Kept), slices.Concat(happen("r", api.Kept), happen("s", api.Kept), happen("t", api.Kept))} {
			events := slices.Concat(happen("n", api.Started), x.way, signals)
			s, e := history.Fold(d, "f", events)
			if e != api.OK || !sameState(s, past{d, "f", events}.state()) {
				t.Fatalf("%s: %+v, %d", x.what, s, e)
			}
			kept := slices.Contains(s.Signals, api.Signal{Name: "s", Text: "old"})
			for kind := -1; kind <= 17; kind++ {
				if kind == api.Started || kind == api.Kept || kind == api.Closed {
					continue
				}
				for _, number := range []int{0, 1, 2, 7, -1} {
					e := api.Event{Kind: kind, Node: x.node, Text: "new", Number: number}
					node, fits := wanted(e, x.what, s.Nodes[x.i])
					want := s
					want.Nodes = slices.Clone(s.Nodes)
					want.Nodes[x.i] = node
					if kind == api.Received && number == 1 {
						fits = fits && kept
						want.Signals = slices.DeleteFunc(slices.Clone(s.Signals), func(k api.Signal) bool { return k.Name == "s" })
					}
					hold(t, d, s, e, want, fits)
					if fits {
						fitted[shortEvent(api.Event{Kind: kind})]++
					}
				}
			}
		}
	}
	if len(fitted) != 12 {
		t.Fatal(fitted)
	}
}

// An event is the node's that it names, and no other's.
func TestEventsOfNobody(t *testing.T) {
	d := five(t)
	for _, x := range standings() {
		s, _ := history.Fold(d, "f", slices.Concat(happen("n", api.Started), x.way, happen("s", api.Kept)))
		for kind := range 18 {
			if kind == api.Started || kind == api.Kept || kind == api.Closed {
				continue
			}
			for _, node := range []string{"", "nobody", "n", "s", "q", "w ", "aa"} {
				for number := range 3 {
					hold(t, d, s, api.Event{Kind: kind, Node: node, Number: number}, api.State{}, false)
				}
			}
		}
	}
}

func TestStarted(t *testing.T) {
	d := five(t)
	for _, e := range []api.Event{{Kind: api.Started}, {Kind: api.Started, Node: "n", Text: "p", Number: 7}, {Kind: api.Started, Text: "p"}, {Kind: api.Started, Node: "a"}} {
		for _, id := range []string{"", "f"} {
			want := api.State{Def: "w", ID: id, Parent: e.Text, ParentNode: e.Node, Status: api.Running, Nodes: make([]api.NodeState, 5)}
			hold(t, d, api.State{ID: id}, e, want, true)
		}
		for status := api.Running; status <= api.Canceled; status++ {
			s, _ := history.Fold(d, "f", happen("", api.Started))
			if status > api.Running {
				s, _ = history.Apply(d, s, api.Event{Kind: api.Closed, Number: status})
			}
			if s.Status != status {
				t.Fatal(s)
			}
			hold(t, d, s, e, api.State{}, false)
		}
	}
}

// Of a workflow that was not started, or is closed, no event fits, whatever its nodes are.
func TestEventsOfWorkflowsThatDoNotRun(t *testing.T) {
	d := five(t)
	for _, x := range standings() {
		events := slices.Concat(happen("", api.Started), x.way, happen("s", api.Kept))
		for _, status := range []int{0, api.Done, api.Broken, api.Canceled} {
			s := api.State{ID: "f"}
			if status != 0 {
				s, _ = history.Fold(d, "f", append(slices.Clone(events), api.Event{Kind: api.Closed, Number: status, Text: "end"}))
			}
			if s.Status != status {
				t.Fatal(s)
			}
			for kind := range 18 {
				for number := range 5 {
					if kind != api.Started {
						hold(t, d, s, api.Event{Kind: kind, Node: x.node, Number: number, Text: "new"}, api.State{}, false)
					}
				}
			}
		}
	}
}

func TestKept(t *testing.T) {
	d := five(t)
	s, _ := history.Fold(d, "f", happen("", api.Started))
	for i := range 3 * api.MaxSignals { // Step refuses what is too many; the event fits always
		name := []string{"s", "a", "", "no name", strings.Repeat("n", 65)}[i%5]
		e := api.Event{Kind: api.Kept, Node: name, Text: fmt.Sprint(i), Number: i % 3}
		want := s
		want.Signals = append(slices.Clone(s.Signals), api.Signal{Name: name, Text: fmt.Sprint(i)})
		hold(t, d, s, e, want, true)
		s, _ = history.Apply(d, s, e)
	}
}

func TestClosed(t *testing.T) {
	d := five(t)
	for _, x := range standings() {
		s, _ := history.Fold(d, "f", slices.Concat(happen("", api.Started), x.way, happen("s", api.Kept)))
		for _, number := range []int{-1 << 63, -2, -1, 0, 1, 2, 3, 4, 5, 6, 1<<32 + 2} {
			for _, node := range []string{"", "a", "nobody"} {
				want := s
				want.Status, want.Text = number, "end"
				hold(t, d, s, api.Event{Kind: api.Closed, Node: node, Text: "end", Number: number}, want, number >= 2 && number <= 4)
			}
		}
	}
}

// The first signal of the name is taken, the others stay in their order.
func TestReceivedTakesTheFirst(t *testing.T) {
	d := def(t, "w wait s", "v wait s", "u wait r")
	kept := func(name, text string) api.Event { return api.Event{Kind: api.Kept, Node: name, Text: text} }
	events := []api.Event{{Kind: api.Started}, kept("r", "1"), kept("s", "2"), kept("u", "3"), kept("s", "4"), kept("r", "5")}
	for _, x := range []struct{ node, left string }{
		{"v", "[{r 1} {u 3} {s 4} {r 5}]"},
		{"u", "[{u 3} {s 4} {r 5}]"},
		{"w", "[{u 3} {r 5}]"},
	} {
		events = append(events, api.Event{Kind: api.Received, Node: x.node, Number: 1, Text: "its own"})
		s, e := history.Fold(d, "f", events)
		if i := strings.Index("wvu", x.node); e != api.OK || fmt.Sprint(s.Signals) != x.left || s.Nodes[i] != (api.NodeState{Status: api.Over, Text: "its own"}) {
			t.Fatalf("%+v, %d, want %s", s, e, x.left)
		}
	}
	// One that waits gets what has just come, and leaves what is kept.
	s, e := history.Fold(d, "f", append(events[:6:6], api.Event{Kind: api.Awaited, Node: "w"}, api.Event{Kind: api.Received, Node: "w", Text: "new"}))
	if e != api.OK || len(s.Signals) != 5 || s.Nodes[0].Text != "new" {
		t.Fatalf("%+v, %d", s, e)
	}
}

// Fold

// journey are events that all fit.
func journey() []api.Event {
	return []api.Event{
		{Kind: api.Started, Node: "n", Text: "p"}, {Kind: api.Scheduled, Node: "a"}, {Kind: api.TimerSet, Node: "t", Number: 105}, {Kind: api.Kept, Node: "s", Text: "1"},
		{Kind: api.Taken, Node: "a", Number: 1}, {Kind: api.Retried, Node: "a", Text: "no", Number: 1}, {Kind: api.Taken, Node: "a", Number: 2}, {Kind: api.Kept, Node: "s", Text: "2"},
		{Kind: api.Received, Node: "w", Text: "1", Number: 1}, {Kind: api.Sent, Node: "x"}, {Kind: api.Completed, Node: "a", Text: "yes"}, {Kind: api.ChildAsked, Node: "c"},
		{Kind: api.Fired, Node: "t"}, {Kind: api.ChildDone, Node: "c", Text: "born"}, {Kind: api.Closed, Number: api.Done, Text: "end"},
	}
}

func TestFold(t *testing.T) {
	d := five(t)
	for n := range len(journey()) + 1 {
		s, e := history.Fold(d, "f/g", journey()[:n])
		if want := (past{d, "f/g", journey()[:n]}).state(); e != api.OK || !sameState(s, want) {
			t.Fatalf("%d events: %+v, %d, want %+v", n, s, e, want)
		}
	}
	s, _ := history.Fold(d, "f", journey())
	if got, want := fmt.Sprint(s), "{w f p n 2 end [{3 2 yes} {3 0 } {3 0 born} {3 0 1} {3 0 }] [{s 2}] 15}"; got != want {
		t.Fatalf("%s, want %s", got, want)
	}
	for _, events := range [][]api.Event{nil, {}} {
		if s, e := history.Fold(d, "f", events); e != api.OK || !sameState(s, api.State{ID: "f"}) {
			t.Fatalf("%+v, %d", s, e)
		}
	}
	if s, e := history.Fold(api.Def{}, "", nil); e != api.OK || !zero(s) {
		t.Fatalf("%+v, %d", s, e)
	}
}

// At whatever place an event doesn't fit: ErrState and a zero state, and States tells what is ahead of it.
func TestFoldOfEventsThatStopFitting(t *testing.T) {
	d := five(t)
	all := journey()
	for n := range len(all) + 1 {
		for _, wrong := range []api.Event{{}, {Kind: 16}, {Kind: api.Closed, Number: api.Running}, {Kind: api.Sent, Node: "a"}, {Kind: api.Completed, Node: "nobody"}} {
			events := slices.Insert(slices.Clone(all), n, wrong)
			if s, e := history.Fold(d, "f", events); e != api.ErrState || !zero(s) {
				t.Fatalf("%d: %+v, %d", n, s, e)
			}
			holdStates(t, d, events, n)
		}
	}
	for n := range all { // one that is missing
		events := slices.Delete(slices.Clone(all), n, n+1)
		_, e := history.Fold(d, "f", events)
		missed := []int{0, 1, 2, 4, 5, 6, 11}
		if (e == api.ErrState) != slices.Contains(missed, n) {
			t.Fatalf("without %d: %d", n, e)
		}
	}
}

// holdStates wants States to tell the first events and no more, wherever it is stopped.
func holdStates(t *testing.T, d api.Def, events []api.Event, fit int) {
	t.Helper()
	states := history.States(d, "f", events)
	for stop := range fit + 2 {
		told := 0
		for i, s := range states {
			if told == stop {
				break
			}
			if want := (past{d, "f", events[:i+1]}).state(); i != told || !sameState(s, want) {
				t.Fatalf("%d, behind %d: %+v, want %+v", i, told, s, want)
			}
			told++
		}
		if told != min(stop, fit) {
			t.Fatalf("told %d, want %d", told, min(stop, fit))
		}
	}
	calls := 0
	states(func(int, api.State) bool { calls++; return false })
	if calls != min(1, fit) {
		t.Fatalf("told %d behind the stop", calls)
	}
}

func TestStates(t *testing.T) {
	d := five(t)
	holdStates(t, d, journey(), len(journey()))
	holdStates(t, d, nil, 0)
	holdStates(t, d, []api.Event{{Kind: api.Closed, Number: api.Done}}, 0)
	holdStates(t, api.Def{}, nil, 0)
	out := ""
	states := history.States(d, "f", journey()[:3])
	for i := range states { // ranged over within itself
		for j, s := range states {
			out += fmt.Sprint(i, j, s.Events, " ")
		}
	}
	if want := "0 0 1 0 1 2 0 2 3 1 0 1 1 1 2 1 2 3 2 0 1 2 1 2 2 2 3 "; out != want {
		t.Fatalf("%s, want %s", out, want)
	}
}
