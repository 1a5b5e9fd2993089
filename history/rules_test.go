package history_test

import (
	"fmt"
	"math"
	"math/rand"
	"slices"
	"strings"
	"testing"

	"tiller/api"
	"tiller/history"
)

// P9.6, W6: whatever events there were, as long as they fit: Step and Fold answer what the chapter says, also of workflows that no Step brings about.
func TestStepBehindAnyEvents(t *testing.T) {
	r := rand.New(rand.NewSource(93))
	steps := map[bool]int{}
	for range 3000 {
		d := rightDef(t, r)
		p := past{d, pick(r, "f", strings.Repeat("n", 253)), []api.Event{{Kind: api.Started, Text: pick(r, "", "p"), Node: pick(r, "", "n0")}}}
		s := p.state()
		for range r.Intn(60) {
			e := anyEvent(r, d)
			if e.Kind == api.Closed && r.Intn(10) > 0 {
				continue
			}
			next, refused := history.Apply(d, s, e)
			if refused != api.OK {
				continue
			}
			p = p.behind(e)
			if s = next; !sameState(s, p.state()) {
				t.Fatalf("%+v\n%v\n%+v\nwant %+v", d, p.events, s, p.state())
			}
		}
		fold, refused := history.Fold(d, p.flow, p.events)
		if refused != api.OK || !sameState(fold, s) {
			t.Fatalf("%+v\n%v\n%+v, %d\nwant %+v", d, p.events, fold, refused, s)
		}
		for range 10 {
			in := likely(r, d, s)
			if r.Intn(4) == 0 {
				in = spoiled(r, in)
			}
			events, next, tasks, refused := history.Step(d, s, in)
			wantEvents, wantTasks, wantRefused := p.step(in)
			if got, want := short(events, tasks, refused), short(wantEvents, wantTasks, wantRefused); got != want {
				t.Fatalf("%+v\n%+v: %+v\n%s\nwant\n%s", d, s, in, got, want)
			}
			if fold, _ := history.Fold(d, p.flow, p.behind(events...).events); refused == api.OK && !sameState(fold, next) {
				t.Fatalf("%+v\n%+v\n%+v\nwant %+v", d, in, next, fold)
			}
			steps[refused == api.OK]++
		}
	}
	if steps[true] < 1000 || steps[false] < 1000 {
		t.Fatal(steps)
	}
}

// anyEvent is an event that may fit.
func anyEvent(r *rand.Rand, d api.Def) api.Event {
	e := api.Event{Kind: 1 + r.Intn(15), Node: d.Nodes[r.Intn(len(d.Nodes))].Name, Text: pick(r, "", "x", "y", "z"), Number: pick(r, 0, 1, 2, 3, 4, -1, 10)}
	if e.Kind == api.Kept {
		e.Node = pick(r, "s", "r", "n0", "n1", "other")
	}
	return e
}

// R2

// roomy is a list with spare room, in which something lies.
func roomy[T any](spare T, list ...T) []T {
	return append(slices.Clone(list), spare, spare)[:len(list)]
}

// whole is a list with its spare room.
func whole[T any](list []T) []T { return list[:cap(list)] }

// handed is what calls are given, each list with spare room: a workflow that waits for s, with signals that are kept.
type handed struct {
	d      api.Def
	s      api.State
	events []api.Event
}

func hand(t testing.TB) handed {
	d := def(t, "a activity q tries 2 timeout 5", "b wait s", "c child v", "e wait r after b", "x send f s after b")
	d.Nodes = roomy(api.Node{Name: "spare"}, d.Nodes...)
	for i, n := range d.Nodes {
		d.Nodes[i].After = roomy("spare", n.After...)
	}
	events := roomy(api.Event{Kind: api.Sent, Node: "spare"}, api.Event{Kind: api.Started, Text: "p"}, api.Event{Kind: api.Scheduled, Node: "a"}, api.Event{Kind: api.Awaited, Node: "b"}, api.Event{Kind: api.ChildAsked, Node: "c"},
		api.Event{Kind: api.Kept, Node: "r", Text: "1"}, api.Event{Kind: api.Kept, Node: "r", Text: "2"}, api.Event{Kind: api.Kept, Node: "o", Text: "3"}, api.Event{Kind: api.Taken, Node: "a", Number: 1})
	s, e := history.Fold(d, "f", events)
	if e != api.OK {
		t.Fatal(e)
	}
	s.Nodes = roomy(api.NodeState{Text: "spare"}, s.Nodes...)
	s.Signals = roomy(api.Signal{Text: "spare"}, s.Signals...)
	return handed{d, s, events}
}

// told is all of it, spare room included.
func (h handed) told() string {
	out := fmt.Sprintf("%+v %+v %+v %+v %+v", h.s, whole(h.s.Nodes), whole(h.s.Signals), whole(h.events), whole(h.d.Nodes))
	for _, n := range h.d.Nodes {
		out += fmt.Sprint(whole(n.After))
	}
	return out
}

// spoilState overwrites a state's lists.
func spoilState(s api.State) {
	for i := range whole(s.Nodes) {
		whole(s.Nodes)[i] = api.NodeState{Status: api.Bad, Try: 77, Text: "spoiled"}
	}
	for i := range whole(s.Signals) {
		whole(s.Signals)[i] = api.Signal{Name: "spoiled", Text: "spoiled"}
	}
}

// inputsOf are inputs that the workflow of hand takes.
func inputsOf() []api.Input {
	return []api.Input{signal("s", "x"), signal("z", "x"), complete("a", 1, "x"), fail("a", 1, "x"), fire("a", 1), child("c", api.Done, "x"), child("c", api.Broken, "x"), cancel("x")}
}

// What is handed in is not changed, and what is answered is new memory: it may be overwritten, and the same call answers the same.
func TestMemoryOfStep(t *testing.T) {
	h := hand(t)
	was := h.told()
	for _, in := range append(inputsOf(), start("f"), take("b"), signal("", ""), cancel(large)) {
		first := ""
		for range 3 {
			events, next, tasks, e := history.Step(h.d, h.s, in)
			if h.told() != was {
				t.Fatalf("%+v changed\n%s to\n%s", in, was, h.told())
			}
			got := fmt.Sprintf("%+v %+v %+v %d", events, next, tasks, e)
			if first == "" {
				first = got
			}
			if got != first {
				t.Fatalf("%+v\n%s, at first\n%s", in, got, first)
			}
			spoilState(next)
			for i := range whole(events) {
				whole(events)[i] = api.Event{Kind: 77}
			}
			for i := range whole(tasks) {
				whole(tasks)[i] = api.Task{Kind: 77}
			}
			if h.told() != was {
				t.Fatalf("%+v: the answer shares memory with what was handed in", in)
			}
		}
	}
}

func TestMemoryOfApplyAndFold(t *testing.T) {
	h := hand(t)
	was := h.told()
	for kind := range 17 {
		for _, node := range []string{"a", "b", "c", "e", "x", "nobody"} {
			for number := range 3 {
				e := api.Event{Kind: kind, Node: node, Text: "new", Number: number}
				first, _ := history.Apply(h.d, h.s, e)
				told := fmt.Sprintf("%+v", first)
				spoilState(first)
				if h.told() != was {
					t.Fatalf("%+v changed\n%s to\n%s", e, was, h.told())
				}
				if again, _ := history.Apply(h.d, h.s, e); fmt.Sprintf("%+v", again) != told {
					t.Fatalf("%+v: %+v, at first %s", e, again, told)
				}
			}
		}
	}
	for range 2 {
		s, e := history.Fold(h.d, "f", h.events)
		if e != api.OK || !sameState(s, h.s) {
			t.Fatalf("%+v, %d", s, e)
		}
		spoilState(s)
		history.Open(h.d, h.s)
		history.Count(h.s)
		if h.told() != was {
			t.Fatalf("changed\n%s to\n%s", was, h.told())
		}
	}
}

// States keeps nothing of what it was given, and who ranges may change what it got.
func TestMemoryOfStates(t *testing.T) {
	h := hand(t)
	was := h.told()
	var want []api.State
	for i := range h.events {
		want = append(want, past{h.d, "f", h.events[:i+1]}.state())
	}
	states := history.States(h.d, "f", h.events)
	rangeOver := func() {
		t.Helper()
		told := 0
		for i, s := range states {
			if !sameState(s, want[i]) {
				t.Fatalf("%d: %+v, want %+v", i, s, want[i])
			}
			spoilState(s)
			told++
		}
		if told != len(want) {
			t.Fatal(told)
		}
	}
	rangeOver()
	rangeOver()
	if h.told() != was {
		t.Fatalf("changed\n%s to\n%s", was, h.told())
	}
	for i := range whole(h.d.Nodes) {
		for j := range whole(h.d.Nodes[:cap(h.d.Nodes)][i].After) {
			whole(whole(h.d.Nodes)[i].After)[j] = "spoiled"
		}
		whole(h.d.Nodes)[i] = api.Node{Name: "spoiled"}
	}
	for i := range whole(h.events) {
		whole(h.events)[i] = api.Event{Kind: 77}
	}
	rangeOver()
}

// No list and an empty one are one.
func TestEmptyListsAreNone(t *testing.T) {
	d := def(t, "a wait s")
	for _, s := range []api.State{{}, {Nodes: []api.NodeState{}, Signals: []api.Signal{}}} {
		events, next, tasks, e := history.Step(d, s, start("f"))
		if got := short(events, tasks, e); got != "Started; Awaited a" || !sameState(next, past{d, "f", events}.state()) {
			t.Fatalf("%s, %+v", got, next)
		}
		next.Signals = s.Signals
		events, _, tasks, e = history.Step(d, next, signal("r", "1"))
		if got := short(events, tasks, e); got != `Kept r "1"` {
			t.Fatal(got)
		}
	}
}

// R4: answers hang on what is handed in alone: two workflows know nothing of each other.
func TestTwoWorkflows(t *testing.T) {
	alone := func() []string {
		f := &flow{t: t, d: def(t, "a activity q", "b wait s after a")}
		return []string{f.does(start("f")), f.does(signal("s", "1")), f.does(take("a")), f.does(complete("a", 1, "x"))}
	}
	want := alone()
	f, g := &flow{t: t, d: def(t, "a activity q", "b wait s after a")}, &flow{t: t, d: def(t, "a wait s", "b child v")}
	for i, in := range []api.Input{start("f"), signal("s", "1"), take("a"), complete("a", 1, "x")} {
		g.does([]api.Input{start("f"), signal("r", "2"), signal("s", "3"), cancel("")}[i])
		f.must(in, want[i])
	}
}

// R1: definitions that Check refuses and states that no Fold tells

// strangeDef is a definition that may be wrong in many ways.
func strangeDef(t testing.TB, r *rand.Rand) api.Def {
	d := rightDef(t, r)
	if r.Intn(20) == 0 {
		d.Nodes = nil
	}
	for range r.Intn(5) {
		if len(d.Nodes) == 0 {
			break
		}
		n, other := &d.Nodes[r.Intn(len(d.Nodes))], d.Nodes[r.Intn(len(d.Nodes))].Name
		switch r.Intn(8) {
		case 0:
			n.Name = pick(r, "", other, "x y", large)
		case 1:
			n.Kind = pick(r, -1<<63, -1, 0, 1, 2, 3, 4, 5, 6, 99)
		case 2:
			n.Arg = pick(r, "", "s", "q r")
		case 3:
			n.To = pick(r, "", "x y")
		case 4:
			n.Delay = pick(r, math.MinInt, -1, 0, math.MaxInt)
		case 5:
			n.Tries = pick(r, math.MinInt, -1, 0, 11, math.MaxInt)
		case 6:
			n.After = append(slices.Clone(n.After), pick(r, other, n.Name, "nobody", ""))
		case 7:
			d.Nodes = append(d.Nodes, d.Nodes...)
		}
	}
	return d
}

// strangeState is a state that may be wrong in many ways.
func strangeState(r *rand.Rand, d api.Def) api.State {
	s := api.State{Def: pick(r, d.Name, "", "v"), ID: pick(r, "", "f", large), Parent: pick(r, "", "p"), ParentNode: pick(r, "", "n"), Status: pick(r, 1, 1, 1, 1, 0, 2, 5, -1), Events: pick(r, 0, 3, -1, math.MaxInt)}
	for range max(0, len(d.Nodes)+pick(r, 0, 0, 0, 0, -1, -3, 1, 5, -99)) {
		s.Nodes = append(s.Nodes, api.NodeState{Status: pick(r, 0, 0, 1, 2, 2, 3, 3, 4, 5, -1), Try: pick(r, 0, 1, 2, -1, math.MaxInt), Text: pick(r, "", "x")})
	}
	for range pick(r, 0, 0, 1, 3, 31, 32, 33) {
		s.Signals = append(s.Signals, api.Signal{Name: pick(r, "s", "r", "", "n0"), Text: "x"})
	}
	return s
}

func TestStrangeThingsDoNotPanic(t *testing.T) {
	r := rand.New(rand.NewSource(94))
	for range 30000 {
		d := strangeDef(t, r)
		s := strangeState(r, d)
		in := api.Input{Kind: r.Intn(10), Name: pick(r, "s", "r", "", "f", large), Text: pick(r, "", "x", large), Try: pick(r, 0, 1, 2, -1, math.MaxInt), Status: r.Intn(6) - 1, Now: pick(r, 0, 100, -1, math.MinInt, math.MaxInt), Parent: pick(r, "", "p"), ParentNode: "n"}
		in.Node = pick(r, "n0", "n1", "n2", "", "nobody")
		events, next, _, e := history.Step(d, s, in)
		if e != api.OK && (len(events) != 0 || !zero(next)) {
			t.Fatalf("%+v, %+v, %d", events, next, e)
		}
		var list []api.Event
		for range r.Intn(6) {
			e := api.Event{Kind: r.Intn(18) - 1, Node: pick(r, "n0", "n1", "n2", "", "nobody"), Text: "x", Number: r.Intn(6) - 1}
			list = append(list, e)
			if next, refused := history.Apply(d, s, e); refused != api.OK && (refused != api.ErrState || !sameState(next, s)) {
				t.Fatalf("%+v, %+v: %+v, %d", s, e, next, refused)
			}
		}
		list = append([]api.Event{{Kind: api.Started}}, list...)
		if s, e := history.Fold(d, in.Name, list); e != api.OK && (e != api.ErrState || !zero(s)) {
			t.Fatalf("%+v, %d", s, e)
		}
		for range history.States(d, in.Name, list) {
		}
		history.Open(d, s)
		history.Count(s)
		history.Words(s.Status)
		history.Step(d, api.State{}, start(in.Name))
	}
}

// Far more nodes than Check takes: it ends.
func TestManyNodes(t *testing.T) {
	const many = 700
	var row, ring api.Def
	for i := range many {
		n := api.Node{Name: fmt.Sprint("n", i), Kind: api.Send, Arg: "s", To: "x", After: []string{fmt.Sprint("n", (i+1)%many)}}
		ring.Nodes = append(ring.Nodes, n)
		if i == many-1 {
			n.After = nil
		}
		row.Nodes = append(row.Nodes, n)
	}
	if events, next, _, e := history.Step(row, api.State{}, start("f")); e != api.OK || len(events) != many+2 || next.Status != api.Done {
		t.Fatal(len(events), next.Status, e)
	}
	if events, _, _, e := history.Step(ring, api.State{}, start("f")); e != api.OK || len(events) != 1 {
		t.Fatal(len(events), e)
	}
	// Events are many where nodes are few.
	events := []api.Event{{Kind: api.Started}}
	for range 200000 {
		events = append(events, api.Event{Kind: api.Kept, Node: "s"})
	}
	if s, e := history.Fold(five(t), "f", events); e != api.OK || len(s.Signals) != 200000 || s.Events != 200001 {
		t.Fatal(len(s.Signals), s.Events, e)
	}
}
