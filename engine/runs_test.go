package engine_test

import (
	"fmt"
	"slices"
	"strings"
	"testing"

	"tiller/api"
	"tiller/ring"
)

// P15, the chapter's runs: one host, two shards, its view; Round; a start; Rounds.
func TestRunOfOneHost(t *testing.T) {
	x := made(t, 2, 1, wText)
	asks(t, x, 0, "/start", object("flow", "f", "def", "w"), 307, owner(-1))
	view(t, x, 1, 0)
	asks(t, x, 0, "/start", object("flow", "f", "def", "w"), 307, owner(0))
	x.Round()
	asks(t, x, 0, "/start", object("flow", "f", "def", "w"), 200, events(2))
	rounds(x, 2)
	if works(t, x, 0, "q") != 1 {
		t.Fatal("it doesn't go on")
	}
	asks(t, x, 0, "/signal", object("flow", "f", "name", "s", "text", "hi"), 200, events(7))
	if s := state(t, x, "f"); s.Status != api.Done || s.Text != "hi" {
		t.Fatal(s)
	}
}

// parentOf is a workflow of shard 0 of two whose child a is of shard 1.
func parentOf() string {
	for k := 0; ; k++ {
		if f := flowOf(0, 2, k); ring.Shard(f+"/a", 2) == 1 {
			return f
		}
	}
}

// P15, the chapter's runs: a child on another shard.
func TestRunOfAChild(t *testing.T) {
	f := parentOf()
	x := ready(t, 2, 1, "workflow p\na child one", oneText)
	starts(t, x, f, "p")
	rounds(x, 2)
	if s := state(t, x, f+"/a"); s.Parent != f || s.ParentNode != "a" || s.Status != api.Running {
		t.Fatal(s)
	}
	if works(t, x, 0, "q") != 1 || state(t, x, f).Status != api.Running {
		t.Fatal("the child's end is known ahead of its mail")
	}
	rounds(x, 1)
	if s := state(t, x, f); s.Status != api.Done || s.Text != "did" || !x.Still() {
		t.Fatal(s)
	}
}

// P15, the chapter's runs: EvCrash, EvStart, EvView, Rounds: all as ahead.
func TestRunOfACrash(t *testing.T) {
	x := ready(t, 2, 1, wText, "workflow p\na child w\nb timer 5")
	starts(t, x, "f", "p")
	starts(t, x, "g", "w")
	rounds(x, 4)
	was := shardTold(x.Exec(0), 2) + shardTold(x.Exec(1), 2)
	for range 3 {
		does(t, x, api.Entry{Kind: api.EvCrash}, api.OK)
		does(t, x, api.Entry{Kind: api.EvStart}, api.OK)
		view(t, x, 1, 0)
		rounds(x, 3)
		if is := shardTold(x.Exec(0), 2) + shardTold(x.Exec(1), 2); is != was || !x.Still() {
			t.Fatal(is, was)
		}
	}
	if works(t, x, 0, "q") != 2 {
		t.Fatal("it doesn't go on")
	}
}

// P15.6, W2, the chapter's runs: two hosts, the view of one without the other; both PickOwn: the later one holds it, the other one's next commit is fenced.
func TestRunOfTwoHosts(t *testing.T) {
	x := made(t, 1, 2, oneText)
	own := func(i int) {
		t.Helper()
		does(t, x, api.Entry{Kind: api.EvPick, Host: i, What: api.PickOwn}, api.OK)
	}
	start := func(i, k, status int, want string) {
		t.Helper()
		was := storeTold(x.Store(0))
		asks(t, x, i, "/start", object("flow", fmt.Sprint("f", k), "def", "one"), status, want)
		if status != 200 && storeTold(x.Store(0)) != was {
			t.Fatal("a commit that is fenced has changed something")
		}
	}
	for i := range 2 {
		does(t, x, api.Entry{Kind: api.EvView, Host: i, View: api.View{Version: 1, Hosts: []int{i}}}, api.OK)
	}
	own(0)
	for k := 1; k < 8; k++ { // they take it from each other
		last, next := (k+1)%2, k%2
		own(next)
		if r, held := x.Host(last).Range(0); !held || r != k {
			t.Fatal(k, r, held)
		}
		if r, held := x.Host(next).Range(0); !held || r != k+1 {
			t.Fatal(k, r, held)
		}
		start(last, k, 307, owner(last))
		if _, held := x.Host(last).Range(0); held {
			t.Fatal("what is fenced is open")
		}
		start(last, k, 307, owner(last))
		start(next, k, 200, events(2))
		if l, _ := x.Leases().Get(0); l != (api.Lease{Owner: next + 1, Range: k + 1}) || x.Store(0).Fence() != k+1 {
			t.Fatal(l)
		}
	}
}

// P15.8, the chapter's runs: EvLose of a shard's disk: the hold is gone; behind PickOwn all is as ahead.
func TestRunOfALostDisk(t *testing.T) {
	x := ready(t, 2, 1, wText, "workflow p\na child w\nb timer 5")
	f := parentOf()
	starts(t, x, f, "p")
	rounds(x, 2)
	asks(t, x, 0, "/signal", object("flow", f, "name", "z", "request", "r"), 200, events(4))
	was := shardTold(x.Exec(0), 2) + shardTold(x.Exec(1), 2)
	for cut := range 30 {
		n := cut % 2
		does(t, x, api.Entry{Kind: api.EvLose, Shard: n, Cuts: []int{cut, cut * 5}}, api.OK)
		if slices.Contains(x.Host(0).Owns(), n) {
			t.Fatal("it is held")
		}
		if is := shardTold(x.Exec(0), 2) + shardTold(x.Exec(1), 2); is != was {
			t.Fatal(is, was)
		}
		pick(t, x, api.PickOwn, n, 0)
		if is := shardTold(x.Exec(0), 2) + shardTold(x.Exec(1), 2); is != was {
			t.Fatal(is, was)
		}
		asks(t, x, 0, "/signal", object("flow", f, "name", "z", "request", "r"), 200, events(4))
	}
}

// P15, the chapter's examples: a request to a host that is down has no answer; Round without views changes nothing; incarnations never come again.
func TestChapterExamples(t *testing.T) {
	x := made(t, 2, 2, wText)
	was := told(x)
	if n := x.Round(); n < 0 || told(x) != was {
		t.Fatal(n)
	}
	seen := map[int]bool{}
	for k := range 20 {
		i := k % 2
		if seen[x.Incarnation(i)] {
			t.Fatal("it comes again:", x.Incarnation(i))
		}
		seen[x.Incarnation(i)] = true
		does(t, x, api.Entry{Kind: api.EvCrash, Host: i}, api.OK)
		does(t, x, api.Entry{Kind: api.EvRequest, Host: i, Bytes: bytesOf("/poll", object("queue", "q"))}, api.ErrNone)
		does(t, x, api.Entry{Kind: api.EvStart, Host: i}, api.OK)
	}
}

// DOC.md, examples of the whole 1 and 2: a start, a Round, a poll: the activity; a completed one lets the next node begin.
func TestExamplesOfActivities(t *testing.T) {
	x := ready(t, 2, 1, "workflow w\na activity q\nb activity p after a")
	starts(t, x, "f", "w")
	asks(t, x, 0, "/poll", object("queue", "q"), 404, refused("none"))
	x.Round()
	asks(t, x, 0, "/poll", object("queue", "p"), 404, refused("none"))
	asks(t, x, 0, "/poll", object("queue", "q"), 200, `{"flow":"f","node":"a","try":1}`)
	asks(t, x, 0, "/complete", object("flow", "f", "node", "a", "try", 1), 200, events(5))
	x.Round()
	asks(t, x, 0, "/poll", object("queue", "p"), 200, `{"flow":"f","node":"b","try":1}`)
	asks(t, x, 0, "/complete", object("flow", "f", "node", "b", "try", 1, "text", "r"), 200, events(8))
	if s := state(t, x, "f"); s.Status != api.Done || s.Text != "r" {
		t.Fatal(s)
	}
}

// DOC.md, example of the whole 3: a timer fires behind its ticks and a PickFire.
func TestExampleOfATimer(t *testing.T) {
	x := ready(t, 1, 1, "workflow w\na timer 4")
	starts(t, x, "f", "w")
	for k := range 4 {
		does(t, x, api.Entry{Kind: api.EvPick, What: api.PickFire}, api.ErrNone)
		does(t, x, api.Entry{Kind: api.EvTick, N: 1}, api.OK)
		if s := state(t, x, "f"); s.Status != api.Running {
			t.Fatal(k, s)
		}
	}
	pick(t, x, api.PickFire, 0, 0)
	if s := state(t, x, "f"); s.Status != api.Done || len(x.Exec(0).Alarms()) != 0 {
		t.Fatal(s)
	}
}

// DOC.md, examples of the whole 4 to 6: a child's end is told by a mail; lost, the next PickMail sends it again; twice, once is enough.
func TestExamplesOfMails(t *testing.T) {
	f := parentOf()
	deliver, drop := api.Entry{Kind: api.EvDeliver}, api.Entry{Kind: api.EvDrop}
	x := ready(t, 2, 1, "workflow p\na child one\nb wait s", oneText)
	starts(t, x, f, "p")
	for range 3 {
		pick(t, x, api.PickMail, 0, 1)
		does(t, x, drop, api.OK)
	}
	if len(x.Flows()) != 1 || x.Exec(1).Mark(0) != 0 {
		t.Fatal(x.Flows())
	}
	pick(t, x, api.PickMail, 0, 1)
	does(t, x, deliver, api.OK)
	does(t, x, drop, api.OK) // the acknowledgement
	if s := state(t, x, f+"/a"); s.Events != 2 || len(x.Exec(0).Outbox(1)) != 1 {
		t.Fatal(s)
	}
	rounds(x, 2)
	works(t, x, 0, "q")
	was := state(t, x, f).Events
	for range 3 {
		pick(t, x, api.PickMail, 1, 0)
		does(t, x, api.Entry{Kind: api.EvDouble}, api.OK)
	}
	for x.Net().Len() > 0 {
		does(t, x, deliver, api.OK)
		if s := state(t, x, f); s.Events != was+1 || s.Nodes[0].Status != api.Over || s.Nodes[0].Text != "did" {
			t.Fatal(s)
		}
	}
	if len(x.Exec(1).Outbox(0)) != 0 || !x.Still() {
		t.Fatal(x.Exec(1).Outbox(0))
	}
}

// DOC.md, examples of the whole 7 to 9: another host takes the shard with the next range, the first one's commits are fenced, a request with a known name is answered as it was.
func TestExamplesOfHosts(t *testing.T) {
	x := ready(t, 1, 2, wText)
	asks(t, x, 0, "/start", object("flow", "f", "def", "w", "request", "r"), 200, events(2))
	first := x.Host(0)
	does(t, x, api.Entry{Kind: api.EvCrash}, api.OK)
	does(t, x, api.Entry{Kind: api.EvView, Host: 1, View: api.View{Version: 2, Hosts: []int{1}}}, api.OK)
	does(t, x, api.Entry{Kind: api.EvPick, Host: 1, What: api.PickOwn}, api.OK)
	if r, _ := x.Host(1).Range(0); r != 2 {
		t.Fatal(r)
	}
	was := storeTold(x.Store(0))
	if status, _ := first.Request("POST", "/signal", object("flow", "f", "name", "s"), 0); status != 307 || storeTold(x.Store(0)) != was {
		t.Fatal(status)
	}
	asks(t, x, 1, "/signal", object("flow", "f", "name", "s", "request", "r1"), 200, events(3))
	asks(t, x, 1, "/start", object("flow", "f", "def", "w", "request", "r"), 200, events(2))
	asks(t, x, 1, "/signal", object("flow", "f", "name", "s", "request", "r1"), 200, events(3))
	asks(t, x, 1, "/start", object("flow", "f", "def", "w"), 409, refused("there"))
}

// W1: requests beyond a bound, and wrong ones, get the error that is said, and change nothing; those that are known are answered as they were.
func TestBounds(t *testing.T) {
	x := ready(t, 1, 1, wText)
	for k := range api.MaxFlows {
		starts(t, x, fmt.Sprint("f", k), "w")
	}
	was := storeTold(x.Store(0))
	asks(t, x, 0, "/start", object("flow", "more", "def", "w"), 429, refused("full"))
	asks(t, x, 0, "/start", object("flow", strings.Repeat("f", 257), "def", "w"), 400, refused("name"))
	asks(t, x, 0, "/start", object("flow", "f0", "def", "w", "request", strings.Repeat("r", 257)), 413, refused("large"))
	asks(t, x, 0, "/start", object("flow", "f0", "def", "none"), 404, refused("none"))
	asks(t, x, 0, "/signal", object("flow", "f0", "name", "s", "text", strings.Repeat("t", 257)), 413, refused("large"))
	if storeTold(x.Store(0)) != was {
		t.Fatal("a refusal has changed something")
	}
	asks(t, x, 0, "/signal", object("flow", "f0", "name", "s", "request", "first"), 200, events(3))
	for k := range api.MaxSignals - 1 {
		asks(t, x, 0, "/signal", object("flow", "f0", "name", "s", "request", fmt.Sprint("s", k)), 200, events(4+k))
	}
	asks(t, x, 0, "/signal", object("flow", "f0", "name", "s", "request", "more"), 429, refused("full"))
	asks(t, x, 0, "/signal", object("flow", "f0", "name", "s", "request", "first"), 200, events(3)) // it is known, and does nothing
	asks(t, x, 0, "/cancel", object("flow", "f0", "request", "last"), 200, events(35))
	asks(t, x, 0, "/cancel", object("flow", "f0", "request", "last"), 200, events(35))
	asks(t, x, 0, "/cancel", object("flow", "f0", "request", "more"), 409, refused("closed"))
}
