package host_test

import (
	"fmt"
	"math"
	"math/big"
	"slices"
	"testing"

	"tiller/api"
	"tiller/codec"
	"tiller/host"
	"tiller/kv"
	"tiller/ring"
	"tiller/shard"
	"tiller/world"
)

// P14.3

// everyPick are all that there are.
func everyPick() []int {
	return []int{api.PickOwn, api.PickLoad, api.PickAck, api.PickFire, api.PickMail, api.PickRenew}
}

// steal takes a shard by somebody else's hold.
func (w *town) steal(n int) *shard.Ctx {
	w.t.Helper()
	c, e := shard.Acquire(w.table, w.stores[n], n, 99)
	if e != api.OK {
		w.t.Fatal(e)
	}
	return c
}

// fenced is a host whose hold of the one shard was fenced, and which knows.
func fenced(w *town) *host.Host {
	w.t.Helper()
	h := w.alone(0)
	w.steal(0)
	asks(w.t, h, "/start", object("flow", "lost", "def", w.c.Defs[0].Name), 307, owner(0))
	return h
}

func TestPickOfWhatThereIsNot(t *testing.T) {
	w := lay(t, 2, 1, wText)
	h := w.alone(0)
	was, told := w.told(), toldOf(h, 2)
	for _, n := range []int{-1, 2, 3, 16, math.MinInt, math.MaxInt} {
		for _, what := range append(everyPick(), 0, 7, -1) {
			picks(t, h, what, n, 0, now, api.ErrArg)
		}
	}
	for _, what := range []int{0, 7, 8, -1, math.MinInt, math.MaxInt} {
		picks(t, h, what, 0, 0, now, api.ErrArg)
		picks(t, w.host(0), what, 0, 0, now, api.ErrArg) // ahead of ErrOwner
	}
	if w.told() != was || toldOf(h, 2) != told {
		t.Fatal("something has changed")
	}
}

// Without an open hold all but PickOwn are ErrOwner, whatever n and the time are, and nothing changes.
func TestPickWithoutAHold(t *testing.T) {
	w := lay(t, 1, 2, wText)
	released := w.alone(0)
	starts(t, released, "f", "w")
	released.Learn(api.View{Version: 2})
	picks(t, released, api.PickOwn, 0, 0, now, api.OK)
	forgotten := w.alone(0)
	forgotten.Forget(0, nil)
	all := w.alone(0)
	all.ForgetAll(nil)
	viewed := w.host(1)
	viewed.Learn(api.View{Version: 1, Hosts: []int{0, 1}})
	was := ""
	for i, h := range []*host.Host{fenced(w), w.host(0), viewed, released, forgotten, all} {
		if i == 0 {
			was = w.told()
		}
		for _, what := range everyPick()[1:] {
			for _, n := range []int{-1, 0, 1, 99} {
				picks(t, h, what, 0, n, 99, api.ErrOwner)
			}
		}
		if w.told() != was {
			t.Fatal("something has changed", i)
		}
	}
}

// PickOwn: whose shard it is, and what hold there is.
func TestPickOwn(t *testing.T) {
	views := map[string][]int{"mine": {1}, "another's": {0}, "nobody's": nil}
	for _, hold := range []string{"none", "open", "stolen", "fenced"} {
		for whose, hosts := range views {
			w := lay(t, 3, 2, wText)
			h := w.host(1)
			h.Learn(api.View{Version: 1, Hosts: []int{1}})
			if hold != "none" {
				picks(t, h, api.PickOwn, 2, 0, now, api.OK)
			}
			if hold == "stolen" || hold == "fenced" {
				w.steal(2)
			}
			if hold == "fenced" {
				picks(t, h, api.PickRenew, 2, 0, now, api.ErrOwner)
			}
			h.Learn(api.View{Version: 2, Hosts: hosts})
			was, told, lease := w.told(), toldOf(h, 3), api.Lease{}
			got, e := h.Pick(api.PickOwn, 2, 7, now)
			if len(got) != 0 {
				t.Fatal(got)
			}
			want, changes := api.OK, true
			switch {
			case whose == "mine" && hold == "none":
				lease = api.Lease{Owner: 1, Range: 1}
			case whose == "mine" && hold == "fenced":
				lease = api.Lease{Owner: 1, Range: 3}
			case whose != "mine" && hold == "open":
				lease = api.Lease{Owner: -1, Range: 1}
			case whose != "mine" && hold == "stolen":
				lease, want = api.Lease{Owner: 99, Range: 2}, api.ErrFence
			default:
				changes = false
			}
			if e != want {
				t.Fatal(hold, whose, e)
			}
			if !changes {
				if w.told() != was || toldOf(h, 3) != told {
					t.Fatal(hold, whose, "something has changed")
				}
				continue
			}
			if !w.table.Holds(2, lease) {
				t.Fatal(hold, whose, lease)
			}
			r, held := h.Range(2)
			if mine := lease.Owner == 1; held != mine || mine && (r != lease.Range || w.stores[2].Fence() != r) || mine != slices.Contains(h.Owns(), 2) {
				t.Fatal(hold, whose, r, held)
			}
		}
	}
}

// What Acquire refuses is the answer, and there is no hold.
func TestPickOwnThatIsRefused(t *testing.T) {
	w := lay(t, 2, 1, wText)
	h := w.host(0)
	h.Learn(api.View{Version: 1, Hosts: []int{0}})
	none := func(want api.Errno, lease api.Lease) {
		t.Helper()
		picks(t, h, api.PickOwn, 1, 0, now, want)
		if l, _ := w.table.Get(1); len(h.Owns()) != 0 || l != lease {
			t.Fatal(h.Owns(), l)
		}
		picks(t, h, api.PickLoad, 1, 0, now, api.ErrOwner)
	}
	w.leases.Fail(0, 0)
	none(api.ErrIO, api.Lease{Owner: -1})
	w.disks[1].Fail(0, 0)
	none(api.ErrIO, api.Lease{Owner: 1, Range: 1}) // the lease stays taken
	w.disks[1].Stop(0)
	none(api.ErrDead, api.Lease{Owner: 1, Range: 2})
	w.leases.Stop(0)
	none(api.ErrDead, api.Lease{Owner: 1, Range: 2})
	w.leases.Stop(1 << 40)
	w.disks[1].Stop(1 << 40)
	w.stores[1].Raise(9)
	none(api.ErrFence, api.Lease{Owner: 1, Range: 3})
	h.Forget(1, storesOf(1, -1)[0])
	picks(t, h, api.PickOwn, 1, 0, now, api.OK)
	if r, _ := h.Range(1); r != 4 {
		t.Fatal(r)
	}
}

// What Release refuses is the answer, and the hold is gone all the same.
func TestPickOwnThatCanNotRelease(t *testing.T) {
	w := lay(t, 2, 2, wText)
	h := w.alone(0)
	h.Learn(api.View{Version: 2, Hosts: []int{1}})
	w.leases.Fail(0, 0)
	picks(t, h, api.PickOwn, 0, 0, now, api.ErrIO)
	w.leases.Stop(0)
	picks(t, h, api.PickOwn, 1, 0, now, api.ErrDead)
	if len(h.Owns()) != 0 || !w.table.Holds(0, api.Lease{Owner: 1, Range: 1}) || !w.table.Holds(1, api.Lease{Owner: 1, Range: 1}) {
		t.Fatal(h.Owns())
	}
	picks(t, h, api.PickOwn, 0, 0, now, api.OK) // there is nothing left to do
}

// PickLoad loads n modulo 16, 0 or more, and 1.
func TestPickLoad(t *testing.T) {
	w := lay(t, 1, 1, "workflow w\na activity q\nb activity q")
	h := w.alone(0)
	for i := range 20 {
		starts(t, h, fmt.Sprint("f", i), "w")
	}
	list := []int{math.MinInt, math.MinInt + 1, math.MaxInt, math.MaxInt - 1, 1 << 40}
	for n := -40; n <= 40; n++ {
		list = append(list, n)
	}
	for _, n := range list {
		h.Forget(0, nil)
		picks(t, h, api.PickOwn, 0, 0, now, api.OK)
		ops := w.disks[0].Ops()
		picks(t, h, api.PickLoad, 0, n, now, api.OK)
		want := int(new(big.Int).Mod(big.NewInt(int64(n)), big.NewInt(16)).Int64())
		l := h.Pending(0)
		if len(l) != want+1 || w.disks[0].Ops() != ops {
			t.Fatal(n, len(l), want+1)
		}
		picks(t, h, api.PickLoad, 0, n, now, api.OK)
		if more := h.Pending(0); len(more) != 2*(want+1) || !same(more[:want+1], l) || !slices.IsSortedFunc(more, func(a, b api.Task) int { return int(imag(a.ID) - imag(b.ID)) }) {
			t.Fatal(n, more)
		}
	}
	for range 9 {
		picks(t, h, api.PickLoad, 0, 15, now, api.OK)
	}
	if len(h.Pending(0)) != 40 {
		t.Fatal(len(h.Pending(0)))
	}
}

func TestPickAck(t *testing.T) {
	w := lay(t, 1, 1, "workflow w\na activity q\nb activity p\nc activity q")
	h := w.alone(0)
	starts(t, h, "f", "w")
	left := func(want int) {
		t.Helper()
		if l := w.exec(0).Dispatches(); len(l) != want {
			t.Fatal(l)
		}
	}
	picks(t, h, api.PickAck, 0, 0, now, api.OK) // there is nothing
	picks(t, h, api.PickLoad, 0, 15, now, api.OK)
	picks(t, h, api.PickAck, 0, 0, now, api.OK)
	left(3)
	asks(t, h, "/poll", object("queue", "q"), 200, given("f", "a", 1))
	asks(t, h, "/poll", object("queue", "q"), 200, given("f", "c", 1))
	w.disks[0].Fail(0, 0)
	picks(t, h, api.PickAck, 0, 0, now, api.ErrIO)
	w.disks[0].Stop(0)
	picks(t, h, api.PickAck, 0, 0, now, api.ErrDead)
	w.disks[0].Stop(1 << 40)
	left(3)
	picks(t, h, api.PickAck, 0, 0, now, api.OK)
	left(2) // b is not finished
	asks(t, h, "/poll", object("queue", "p"), 200, given("f", "b", 1))
	w.steal(0)
	picks(t, h, api.PickAck, 0, 0, now, api.ErrFence)
	left(2)
	picks(t, h, api.PickAck, 0, 0, now, api.ErrOwner)
	picks(t, h, api.PickOwn, 0, 0, now, api.OK)
	picks(t, h, api.PickLoad, 0, 15, now, api.OK)
	if len(h.Pending(0)) != 2 { // what was finished and not acked comes again: it is stale
		t.Fatal(h.Pending(0))
	}
	asks(t, h, "/poll", object("queue", "q"), 404, refused("none"))
	picks(t, h, api.PickAck, 0, 0, now, api.OK)
	left(0)
}

// alarms lays alarms into a shard's store as the workflow f's: whatever they are.
func (w *town) alarms(list ...api.Task) {
	w.t.Helper()
	w.tasks("f", api.Alarm, list...)
}

// tasks lays tasks of a kind.
func (w *town) tasks(flow string, kind int, list ...api.Task) {
	w.t.Helper()
	for i := range list {
		list[i].Kind = kind
	}
	n := ring.Shard(flow, w.c.Shards)
	s := w.state(flow)
	c := w.steal(n)
	if _, e := w.exec(n).Commit(c, api.Update{Flow: flow, Expect: s.Events, State: s, Tasks: list}); e != api.OK {
		w.t.Fatal(e)
	}
}

func TestPickFireWithoutAlarms(t *testing.T) {
	w := lay(t, 2, 1, "workflow w\na timer 5")
	h := w.alone(0)
	for _, at := range []int{math.MinInt, -1, 0, api.MaxTime, math.MaxInt} {
		picks(t, h, api.PickFire, 0, 0, at, api.ErrNone)
	}
	starts(t, h, flowOf(1, 2, 0), "w") // at 10
	was := w.told()
	for _, at := range []int{math.MinInt, -1, 0, 10, 14} {
		picks(t, h, api.PickFire, 1, 0, at, api.ErrNone)
	}
	picks(t, h, api.PickFire, 0, 0, 99, api.ErrNone) // it is another shard's
	if w.told() != was {
		t.Fatal("something has changed")
	}
	picks(t, h, api.PickFire, 1, 0, 15, api.OK)
	if s := w.state(flowOf(1, 2, 0)); s.Status != api.Done || len(w.exec(1).Alarms()) != 0 {
		t.Fatal(s)
	}
	picks(t, h, api.PickFire, 1, 0, 15, api.ErrNone)
}

// One at a time, by their times, then by their IDs; and what is due is done at the time that is told.
func TestPickFireInOrder(t *testing.T) {
	w := lay(t, 1, 1, "workflow w\na timer 5\nb timer 3\nc timer 5\nd timer 4 after b")
	h := w.alone(0)
	starts(t, h, "f", "w")
	stands := func(want string) {
		t.Helper()
		got := ""
		for _, n := range w.state("f").Nodes {
			got += fmt.Sprint(n.Status)
		}
		if got != want {
			t.Fatal(got)
		}
	}
	stands("2220") // Busy, Busy, Busy, Idle
	picks(t, h, api.PickFire, 0, 0, 20, api.OK)
	stands("2322")
	picks(t, h, api.PickFire, 0, 0, 20, api.OK)
	stands("3322")
	picks(t, h, api.PickFire, 0, 0, 20, api.OK)
	stands("3332")
	picks(t, h, api.PickFire, 0, 0, 23, api.ErrNone) // d began at 20
	picks(t, h, api.PickFire, 0, 0, 24, api.OK)
	stands("3333")
	if s := w.state("f"); s.Status != api.Done {
		t.Fatal(s)
	}
}

// An activity that takes too long is tried again, and then its workflow is broken.
func TestPickFireOfActivities(t *testing.T) {
	w := lay(t, 1, 1, "workflow w\na activity q tries 2 timeout 7")
	h := w.alone(0)
	starts(t, h, "f", "w")
	picks(t, h, api.PickLoad, 0, 15, now, api.OK)
	asks(t, h, "/poll", object("queue", "q"), 200, given("f", "a", 1))
	picks(t, h, api.PickFire, 0, 0, 16, api.ErrNone)
	picks(t, h, api.PickFire, 0, 0, 17, api.OK)
	if s := w.state("f"); s.Nodes[0].Status != api.Ready || s.Status != api.Running || len(w.exec(0).Alarms()) != 0 {
		t.Fatal(s)
	}
	picks(t, h, api.PickLoad, 0, 15, now, api.OK)
	asks(t, h, "/poll", object("queue", "q"), 200, given("f", "a", 2))
	picks(t, h, api.PickFire, 0, 0, 17, api.OK)
	if s := w.state("f"); s.Status != api.Broken || s.Text != "timeout" {
		t.Fatal(s)
	}
}

// Alarms that mean nothing any more go, and change nothing else.
func TestPickFireOfWhatMeansNothing(t *testing.T) {
	w := lay(t, 1, 1, "workflow w\na activity q timeout 7\nb wait s\nc timer 900", "workflow v\na timer 5")
	h := w.alone(0)
	starts(t, h, "f", "w")
	starts(t, h, "g", "v")
	starts(t, h, "closed", "v")
	asks(t, h, "/cancel", object("flow", "closed"), 200, events(3))
	picks(t, h, api.PickLoad, 0, 15, now, api.OK)
	asks(t, h, "/poll", object("queue", "q"), 200, given("f", "a", 1))
	lists := []api.Task{
		{Flow: "ghost", Node: "a", Try: 1},          // there is no such workflow
		{Flow: "f", Node: "a", Try: 2},              // of another try
		{Flow: "f", Node: "a"},                      // likewise
		{Flow: "f", Node: "b"},                      // no timer, no activity
		{Flow: "f", Node: "x", Try: 1},              // no node
		{Flow: "closed", Node: "a"},                 // it was canceled
		{Flow: "g", Node: "a", At: 3},               // its definition is unknown to whoever fires
		{Flow: "f", Node: "", Try: 1},               //
		{Flow: "", Node: "a", Try: 1},               // no workflow's name
		{Flow: "f/a", Node: "a", Try: 1, At: 1},     //
		{Flow: "f", Node: "A", Try: 1, At: 1 << 40}, //
	}
	w.alarms(lists...)
	w.c.Defs = w.c.Defs[:1]
	h = w.alone(0)
	was, alarms := fmt.Sprint(w.state("f"), w.state("g"), w.state("closed")), len(w.exec(0).Alarms())
	for k := range alarms - 1 { // but for that of c
		commits := w.stores[0].Commits()
		at := 18
		if l := w.exec(0).Alarms(); l[0].Flow == "f" && l[0].Node == "a" && l[0].Try == 1 {
			break
		}
		picks(t, h, api.PickFire, 0, 0, at, api.OK)
		if l := w.exec(0).Alarms(); len(l) != alarms-1-k || w.stores[0].Commits() != commits+1 {
			t.Fatal(k, l)
		}
		if got := fmt.Sprint(w.state("f"), w.state("g"), w.state("closed")); got != was {
			t.Fatal(k, got)
		}
	}
	picks(t, h, api.PickFire, 0, 0, 18, api.OK) // it is the one that fires
	if s := w.state("f"); s.Status != api.Broken || s.Text != "timeout" {
		t.Fatal(s)
	}
	for _, at := range []int{1 << 30, 1 << 40} {
		picks(t, h, api.PickFire, 0, 0, at, api.OK)
		picks(t, h, api.PickFire, 0, 0, at, api.ErrNone)
	}
}

// Trouble at each operation: nothing is done, or the alarm has fired and stays, or all is done. What stays is harmless.
func TestPickFireInTrouble(t *testing.T) {
	met := map[string]int{}
	for after := range 12 {
		for _, kind := range []int{-1, 0, 2} {
			w := lay(t, 1, 1, "workflow w\na timer 5\nb activity q after a")
			h := w.alone(0)
			starts(t, h, "f", "w")
			want := api.ErrIO
			if kind < 0 {
				want = api.ErrDead
				w.disks[0].Stop(after)
			} else {
				w.disks[0].Fail(after, kind)
			}
			l, e := h.Pick(api.PickFire, 0, 0, 15)
			over, alarms := w.state("f").Nodes[0].Status == api.Over, len(w.exec(0).Alarms())
			outcome := fmt.Sprint(e == api.OK, over, alarms)
			if len(l) != 0 || e != api.OK && e != want || !slices.Contains([]string{"true true 0", "false false 1", "false true 1"}, outcome) {
				t.Fatal(after, kind, l, e, outcome)
			}
			met[outcome]++
			w.disks[0].Stop(1 << 40)
			for range 9 {
				h.Pick(api.PickFire, 0, 0, 15)
			}
			if s := w.state("f"); s.Events != 4 || s.Nodes[1].Status != api.Ready || len(w.exec(0).Alarms()) != 0 || len(w.exec(0).Dispatches()) != 1 {
				t.Fatal(after, kind, s)
			}
		}
	}
	if len(met) != 3 {
		t.Fatal(met)
	}
}

// A fenced host fires nothing, and finishes nothing.
func TestPickFireOfAFencedHost(t *testing.T) {
	for _, text := range []string{"workflow w\na timer 5", "workflow v\na timer 5"} { // of the second the alarm means nothing
		w := lay(t, 1, 1, "workflow w\na timer 5")
		starts(t, w.alone(0), "f", "w")
		w.c.Defs = defs(t, text)
		h := w.alone(0)
		w.steal(0)
		was := w.told()
		picks(t, h, api.PickFire, 0, 0, 14, api.ErrNone)
		if !same(h.Owns(), []int{0}) {
			t.Fatal("it can't know yet")
		}
		picks(t, h, api.PickFire, 0, 0, 15, api.ErrFence)
		picks(t, h, api.PickFire, 0, 0, 15, api.ErrOwner)
		if w.told() != was || len(h.Owns()) != 0 {
			t.Fatal("something has changed")
		}
	}
}

func TestPickMail(t *testing.T) {
	to := flowOf(1, 3, 0)
	w := lay(t, 3, 4, "workflow w\na send "+to+" s\nb send "+to+" z\nc child v\nd send f x")
	h := w.alone(2)
	from := flowOf(0, 3, 0)
	starts(t, h, from, "w")
	x := w.exec(0)
	for _, n := range []int{-1, 3, 4, 16, math.MinInt, math.MaxInt} {
		picks(t, h, api.PickMail, 0, n, now, api.ErrArg)
	}
	for n := range 3 {
		picks(t, h, api.PickMail, 1, n, now, api.ErrNone) // another shard has sent nothing
	}
	was := w.told()
	for n := range 3 {
		out := x.Outbox(n)
		if len(out) == 0 {
			picks(t, h, api.PickMail, 0, n, now, api.ErrNone)
			continue
		}
		for range 2 { // again and again the first one, till it is acknowledged
			p := mails(t, h, 0, n)
			e, _, why := codec.ReadEnvelope(p.Bytes)
			if p.From != 2 || p.To != 2 || why != api.OK || e != out[0] || e.Seq != 1 {
				t.Fatal(p, e, why)
			}
			clear(p.Bytes[:cap(p.Bytes)])
		}
	}
	if len(x.Outbox(1)) < 2 || w.told() != was {
		t.Fatal(x.Outbox(1))
	}
	h.Learn(api.View{Version: 2, Hosts: []int{3}}) // its hold is open still
	if p := mails(t, h, 0, 1); p.From != 2 || p.To != 3 {
		t.Fatal(p)
	}
	h.Learn(api.View{Version: 3})
	picks(t, h, api.PickMail, 0, 1, now, api.ErrNone)
	picks(t, h, api.PickMail, 0, -1, now, api.ErrArg)
	if w.told() != was {
		t.Fatal("something has changed")
	}
}

// The parcel goes to the host for the envelope's shard, not for the shard that sends it.
func TestPickMailToTheHostForItsShard(t *testing.T) {
	w := lay(t, 12, 16, "workflow w\na send "+flowOf(11, 12, 0)+" s")
	h := w.alone(5)
	starts(t, h, flowOf(0, 12, 0), "w")
	h.Learn(api.View{Version: 2, Hosts: []int{9, 15}})
	if a, _ := h.For(0); a != 9 {
		t.Fatal(a)
	}
	if p := mails(t, h, 0, 11); p.From != 5 || p.To != 15 {
		t.Fatal(p)
	}
}

func TestPickRenew(t *testing.T) {
	w := lay(t, 2, 1, wText)
	h := w.alone(0)
	was := w.told()
	picks(t, h, api.PickRenew, 0, 0, now, api.OK)
	picks(t, h, api.PickRenew, 1, 0, now, api.OK)
	if w.told() != was {
		t.Fatal("something has changed")
	}
	l, _ := w.table.Get(0)
	if _, e := w.table.Swap(0, l, 77); e != api.OK { // the fence is not raised yet
		t.Fatal(e)
	}
	if !same(h.Owns(), []int{0, 1}) {
		t.Fatal(h.Owns())
	}
	picks(t, h, api.PickRenew, 0, 0, now, api.ErrOwner)
	if !same(h.Owns(), []int{1}) {
		t.Fatal(h.Owns())
	}
	picks(t, h, api.PickRenew, 0, 0, now, api.ErrOwner)
	l, _ = w.table.Get(1)
	w.table.Free(1, l)
	picks(t, h, api.PickRenew, 1, 0, now, api.ErrOwner)
	if len(h.Owns()) != 0 {
		t.Fatal(h.Owns())
	}
}

// What picks do for one shard is nothing to the others.
func TestPicksKnowTheirShardAlone(t *testing.T) {
	w := lay(t, 3, 1, "workflow w\na activity q\nb timer 5")
	h := w.alone(0)
	for n := range 3 {
		starts(t, h, flowOf(n, 3, 0), "w")
	}
	picks(t, h, api.PickLoad, 1, 0, now, api.OK)
	picks(t, h, api.PickFire, 1, 0, 99, api.OK)
	for n := range 3 {
		mine := n == 1
		if len(h.Pending(n)) != map[bool]int{true: 1}[mine] || len(w.exec(n).Alarms()) != map[bool]int{false: 1}[mine] {
			t.Fatal(n, h.Pending(n), w.exec(n).Alarms())
		}
	}
	d := world.NewDisk()
	s, _ := kv.Open(d, 0)
	h.Forget(1, s)
	if !same(h.Owns(), []int{0, 2}) {
		t.Fatal(h.Owns())
	}
}
