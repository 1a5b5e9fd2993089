package host_test

import (
	"fmt"
	"testing"

	"tiller/api"
	"tiller/host"
)

// P14.6

// pending must be so many of a shard.
func pending(t testing.TB, h *host.Host, n, want int) {
	t.Helper()
	if l := h.Pending(n); len(l) != want {
		t.Fatal(n, l)
	}
}

// polls polls a queue, and must get that.
func polls(t testing.TB, h *host.Host, queue string, status int, want string) {
	t.Helper()
	asks(t, h, "/poll", object("queue", queue), status, want)
}

func TestPollOfQueues(t *testing.T) {
	w := lay(t, 1, 1, "workflow w\na activity q\nb activity p\nc activity q\nd activity p.2\ne wait q\nf child q")
	h := w.alone(0)
	polls(t, h, "q", 404, refused("none"))
	starts(t, h, "f", "w")
	polls(t, h, "q", 404, refused("none")) // nothing is loaded
	picks(t, h, api.PickLoad, 0, 15, now, api.OK)
	was := w.told()
	for _, queue := range []string{"", "Q", "qq", "none", "a", "f", "\\u0000"} {
		polls(t, h, queue, 404, refused("none"))
		pending(t, h, 0, 4)
	}
	if w.told() != was {
		t.Fatal("something has changed")
	}
	polls(t, h, "p.2", 200, given("f", "d", 1))
	pending(t, h, 0, 3)
	polls(t, h, "q", 200, given("f", "a", 1))
	polls(t, h, "q", 200, given("f", "c", 1))
	polls(t, h, "q", 404, refused("none"))
	pending(t, h, 0, 1)
	polls(t, h, "p", 200, given("f", "b", 1))
	pending(t, h, 0, 0)
	s := w.state("f")
	for i := range 4 {
		if s.Nodes[i].Status != api.Busy || s.Nodes[i].Try != 1 {
			t.Fatal(s)
		}
	}
	if s.Events != 11 {
		t.Fatal(s)
	}
}

// What is taken is to be done in time: the alarm is laid at the time of the poll.
func TestPollLaysAlarms(t *testing.T) {
	w := lay(t, 1, 1, "workflow w\na activity q timeout 7")
	h := w.alone(0)
	starts(t, h, "f", "w")
	picks(t, h, api.PickLoad, 0, 15, now, api.OK)
	if status, body := h.Request("POST", "/poll", object("queue", "q"), 30); status != 200 || body != given("f", "a", 1) {
		t.Fatal(status, body)
	}
	if l := w.exec(0).Alarms(); len(l) != 1 || l[0].At != 37 || l[0].Node != "a" || l[0].Try != 1 {
		t.Fatal(l)
	}
}

// Shard by shard, rising, and task by task; only those that are held.
func TestPollOverShards(t *testing.T) {
	w := lay(t, 4, 1, "workflow w\na activity q\nb activity q")
	h := w.alone(0)
	var flows []string
	for _, n := range []int{2, 0, 3, 1} { // whichever was started first
		flows = append(flows, flowOf(n, 4, 0))
		starts(t, h, flowOf(n, 4, 0), "w")
		starts(t, h, flowOf(n, 4, 1), "w")
		picks(t, h, api.PickLoad, n, 15, now, api.OK)
	}
	h.Forget(1, nil)
	for _, n := range []int{0, 2, 3} {
		for _, flow := range []string{flowOf(n, 4, 0), flowOf(n, 4, 1)} {
			polls(t, h, "q", 200, given(flow, "a", 1))
			polls(t, h, "q", 200, given(flow, "b", 1))
		}
	}
	polls(t, h, "q", 404, refused("none"))
	picks(t, h, api.PickOwn, 1, 0, now, api.OK)
	polls(t, h, "q", 404, refused("none"))
	picks(t, h, api.PickLoad, 1, 0, now, api.OK)
	polls(t, h, "q", 200, given(flows[3], "a", 1))
	polls(t, h, "q", 404, refused("none"))
}

// Tasks of which nothing can become any more are finished; all others stay.
func TestPollOfStaleTasks(t *testing.T) {
	w := lay(t, 1, 1, "workflow w\na activity q tries 3\nb activity p\nc timer 9\nd activity q after b", "workflow v\na activity q")
	h := w.alone(0)
	for _, flow := range []string{"f", "g", "closed", "late"} {
		starts(t, h, flow, "w")
	}
	starts(t, h, "v", "v")
	asks(t, h, "/cancel", object("flow", "closed"), 200, events(5))
	picks(t, h, api.PickLoad, 0, 15, now, api.OK)
	polls(t, h, "q", 200, given("f", "a", 1))
	asks(t, h, "/fail", object("flow", "f", "node", "a", "try", 1), 200, events(6))
	w.tasks("f", api.Dispatch,
		api.Task{Flow: "ghost", Node: "a", Try: 1}, // no such workflow
		api.Task{Flow: "f", Node: "x", Try: 1},     // no such node
		api.Task{Flow: "f", Node: "x", Try: 2},     //
		api.Task{Flow: "f", Node: "", Try: 1},      //
		api.Task{Flow: "f", Node: "c", Try: 1},     // it is Busy
		api.Task{Flow: "f", Node: "d", Try: 1},     // it is Idle
		api.Task{Flow: "f", Node: "a", Try: 1},     // that try was
		api.Task{Flow: "f", Node: "a", Try: 3},     // that try is not yet
		api.Task{Flow: "f", Node: "a", Try: 0},     //
		api.Task{Flow: "f", Node: "b", Try: 1},     // twice the same: the first one counts
		api.Task{Flow: "closed", Node: "a", Try: 1},
		api.Task{Flow: "v", Node: "a", Try: 1},
	)
	w.c.Defs = w.c.Defs[:1] // v is unknown
	h = w.alone(0)
	for range 3 {
		picks(t, h, api.PickLoad, 0, 15, now, api.OK)
	}
	all := len(w.exec(0).Dispatches())
	pending(t, h, 0, all)
	was := w.told()
	polls(t, h, "none", 404, refused("none"))
	if w.told() != was {
		t.Fatal("something has changed")
	}
	got := ""
	for _, task := range h.Pending(0) {
		got += fmt.Sprint(" ", task.Flow, task.Node, task.Try)
	}
	if got != " fb1 ga1 gb1 latea1 lateb1 fa2 fb1" {
		t.Fatal(got)
	}
	polls(t, h, "p", 200, given("f", "b", 1))
	polls(t, h, "q", 200, given("g", "a", 1))
	polls(t, h, "q", 200, given("late", "a", 1))
	polls(t, h, "q", 200, given("f", "a", 2))
	polls(t, h, "q", 404, refused("none"))
	pending(t, h, 0, 2) // the second of f's b was stale when the last poll came to it
	picks(t, h, api.PickAck, 0, 0, now, api.OK)
	if l := w.exec(0).Dispatches(); len(l) == 0 || l[0].Flow != "g" || l[0].Node != "b" {
		t.Fatal(l)
	}
}

// Only those that stand ahead of what is given out are looked at.
func TestPollStopsAtTheFirst(t *testing.T) {
	w := lay(t, 2, 1, "workflow w\na activity q")
	h := w.alone(0)
	first, second, third := flowOf(0, 2, 0), flowOf(0, 2, 1), flowOf(0, 2, 2)
	for _, flow := range []string{first, second, third, flowOf(1, 2, 0)} {
		starts(t, h, flow, "w")
	}
	for n := range 2 {
		picks(t, h, api.PickLoad, n, 15, now, api.OK)
	}
	for _, flow := range []string{first, third, flowOf(1, 2, 0)} {
		asks(t, h, "/cancel", object("flow", flow), 200, events(3))
	}
	pending(t, h, 0, 3)
	polls(t, h, "q", 200, given(second, "a", 1))
	pending(t, h, 0, 1) // the third is stale too, but nobody has looked
	pending(t, h, 1, 1)
	polls(t, h, "q", 404, refused("none"))
	pending(t, h, 0, 0)
	pending(t, h, 1, 0)
}

// A definition of the same name with other nodes: what the state lacks is no node.
func TestPollOfOtherDefinitions(t *testing.T) {
	w := lay(t, 1, 1, "workflow w\na activity q")
	starts(t, w.alone(0), "f", "w")
	w.c.Defs = defs(t, "workflow w\nx wait s\na activity q")
	h := w.alone(0)
	picks(t, h, api.PickLoad, 0, 0, now, api.OK)
	polls(t, h, "q", 404, refused("none"))
	pending(t, h, 0, 0)
	w.c.Defs = defs(t, "workflow w\na activity p")
	h = w.alone(0)
	picks(t, h, api.PickLoad, 0, 0, now, api.OK)
	polls(t, h, "q", 404, refused("none"))
	polls(t, h, "p", 200, given("f", "a", 1))
}

// What Commit refuses is the answer; the task stays.
func TestPollInTrouble(t *testing.T) {
	for after := range 3 {
		w := lay(t, 2, 1, "workflow w\na activity q")
		h := w.alone(0)
		for n := range 2 {
			starts(t, h, flowOf(n, 2, 0), "w")
			picks(t, h, api.PickLoad, n, 0, now, api.OK)
		}
		w.disks[0].Fail(after, 0)
		polls(t, h, "q", 503, refused("storage"))
		pending(t, h, 0, 1)
		w.disks[0].Stop(after)
		polls(t, h, "q", 503, refused("storage")) // the other shard is not asked
		pending(t, h, 0, 1)
		pending(t, h, 1, 1)
		if s := w.state(flowOf(0, 2, 0)); s.Nodes[0].Status != api.Ready || s.Events != 2 {
			t.Fatal(s)
		}
		w.disks[0].Stop(1 << 40)
		polls(t, h, "q", 200, given(flowOf(0, 2, 0), "a", 1))
		polls(t, h, "q", 200, given(flowOf(1, 2, 0), "a", 1))
	}
}

// Of a shard that was fenced it is told who may, by that shard; then the hold is none any more.
func TestPollOfAFencedShard(t *testing.T) {
	w := lay(t, 12, 16, "workflow w\na activity q\nb activity q")
	for _, n := range []int{0, 11} {
		h := w.alone(3)
		flow := flowOf(n, 12, 0)
		starts(t, h, flow, "w")
		picks(t, h, api.PickLoad, n, 15, now, api.OK)
		h.Learn(api.View{Version: 2, Hosts: []int{9, 15}})
		polls(t, h, "q", 200, given(flow, "a", 1))
		w.steal(n)
		was := w.told()
		polls(t, h, "none", 404, refused("none")) // nothing is committed, so nothing is found out
		polls(t, h, "q", 307, owner(map[int]int{0: 9, 11: 15}[n]))
		if _, held := h.Range(n); held || len(h.Owns()) != 11 {
			t.Fatal(h.Owns())
		}
		pending(t, h, n, 0)
		polls(t, h, "q", 404, refused("none"))
		if w.told() != was {
			t.Fatal("something has changed")
		}
	}
	h := w.alone(3)
	for _, n := range []int{2, 5} {
		starts(t, h, flowOf(n, 12, 0), "w")
		picks(t, h, api.PickLoad, n, 0, now, api.OK)
	}
	h.Learn(api.View{Version: 2})
	w.steal(2)
	polls(t, h, "q", 307, owner(-1))
	polls(t, h, "q", 200, given(flowOf(5, 12, 0), "a", 1)) // the others go on
}

// Two hosts that both think they hold a shard: an activity is given out once.
func TestPollGivesOutOnce(t *testing.T) {
	w := lay(t, 1, 2, "workflow w\na activity q")
	a := w.alone(0)
	starts(t, a, "f", "w")
	picks(t, a, api.PickLoad, 0, 0, now, api.OK)
	b := w.alone(1)
	picks(t, b, api.PickLoad, 0, 0, now, api.OK)
	polls(t, b, "q", 200, given("f", "a", 1))
	pending(t, a, 0, 1)
	polls(t, a, "q", 404, refused("none")) // its own task is stale by now
	pending(t, a, 0, 0)
	b.Forget(0, nil)
	picks(t, b, api.PickOwn, 0, 0, now, api.OK)
	picks(t, b, api.PickLoad, 0, 0, now, api.OK) // it was not acked: it comes again
	pending(t, b, 0, 1)
	polls(t, b, "q", 404, refused("none"))
	picks(t, b, api.PickAck, 0, 0, now, api.OK)
	if l := w.exec(0).Dispatches(); len(l) != 0 {
		t.Fatal(l)
	}
}
