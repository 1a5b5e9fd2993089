package engine_test

import (
	"fmt"
	"slices"
	"strings"
	"testing"

	"tiller/api"
	"tiller/codec"
	"tiller/engine"
	"tiller/front"
)

// unchanged does an entry that must be refused so, and must change nothing that can be told.
func unchanged(t *testing.T, x *engine.Cluster, e api.Entry, want api.Errno) {
	t.Helper()
	was := told(x)
	does(t, x, e, want)
	if is := told(x); is != was {
		t.Fatalf("%+v has changed\n%s\nto\n%s", e, was, is)
	}
}

// P15.2: a Kind that is none is ErrArg, whatever else stands in the entry.
func TestNoKind(t *testing.T) {
	x := ready(t, 2, 2, wText)
	for _, kind := range []int{0, -1, 13, 99, -1 << 63, 1<<63 - 1} {
		unchanged(t, x, api.Entry{Kind: kind}, api.ErrArg)
		unchanged(t, x, api.Entry{Kind: kind, Host: 9, Shard: 9, What: 9, N: 1, Kind2: 1, Bytes: []byte("x"), View: api.View{Version: 9}, Cuts: []int{1}}, api.ErrArg)
	}
}

// P15.2 EvRequest: no answer of a host that is down, or is none; bytes that are no request; else what the host answers.
func TestRequests(t *testing.T) {
	x := ready(t, 2, 3, wText)
	does(t, x, api.Entry{Kind: api.EvCrash, Host: 2}, api.OK)
	for _, i := range []int{2, 3, -1, 16, -1 << 63} {
		for _, raw := range []string{"", "x", string(bytesOf("/start", object("flow", "f", "def", "w")))} {
			unchanged(t, x, api.Entry{Kind: api.EvRequest, Host: i, Bytes: []byte(raw)}, api.ErrNone)
		}
	}
	head := func(line string) string { return line + "\r\n\r\n" }
	for raw, status := range map[string]int{
		"":                        400,
		"x":                       400,
		head("GET / HTTP/1.0"):    400,
		head("PUT / HTTP/1.1"):    405,
		head("put / HTTP/1.1"):    400,
		strings.Repeat("x", 4096): 431,
		head("POST /start HTTP/1.1\r\nContent-Length: 4097"):                   413,
		head("POST /start HTTP/1.1\r\nContent-Length: 1"):                      400,
		head("POST /start HTTP/1.1\r\nContent-Length: 1") + "\xff":             400,
		head("POST /start HTTP/1.1\r\nContent-Length: 0\r\ncontent-length: 0"): 400,
	} {
		was := told(x)
		b, e := x.Do(api.Entry{Kind: api.EvRequest, Bytes: []byte(raw)})
		if e != api.OK || string(b) != string(front.Reply(status, `{"error":"request"}`)) || told(x) != was {
			t.Errorf("%q: %q, %d", raw, b, e)
		}
	}
	asks(t, x, 0, "/start", object("flow", "f", "def", "w", "request", "r"), 200, events(2))
	asks(t, x, 0, "/start", object("flow", "f", "def", "w", "request", "r"), 200, events(2))
	asks(t, x, 0, "/start", object("flow", "f", "def", "w"), 409, refused("there"))
	asks(t, x, 1, "/start", object("flow", "f", "def", "w"), 307, owner(0))
	asks(t, x, 0, "/start", "{", 400, refused("form"))
	asks(t, x, 0, "/nothing", "", 404, refused("none"))
	asks(t, x, 0, "/cancel", object("flow", "f", "text", strings.Repeat("x", 257)), 413, refused("large"))
	b, e := x.Do(api.Entry{Kind: api.EvRequest, Bytes: []byte("GET /start HTTP/1.1\r\n\r\n")})
	if e != api.OK || string(b) != string(front.Reply(405, refused("method"))) {
		t.Errorf("%q %d", b, e)
	}
	asks(t, x, 0, "/query?flow=f", "", 200, front.State(config(t, 1, 1, wText).Defs[0], state(t, x, "f")))
	for k := range 32 {
		asks(t, x, 0, "/signal", object("flow", "f", "name", "s"), 200, events(3+k))
	}
	asks(t, x, 0, "/signal", object("flow", "f", "name", "s"), 429, refused("full"))
	does(t, x, api.Entry{Kind: api.EvStop, Shard: 0}, api.OK)
	does(t, x, api.Entry{Kind: api.EvStop, Shard: 1}, api.OK)
	asks(t, x, 0, "/cancel", object("flow", "f"), 503, refused("storage"))
}

// P15.2 EvRequest: the host is asked at the clock's time.
func TestRequestsHaveTheTime(t *testing.T) {
	x := ready(t, 1, 1, "workflow t\na timer 5\nb activity q timeout 3")
	does(t, x, api.Entry{Kind: api.EvTick, N: 7}, api.OK)
	starts(t, x, "f", "t")
	if l := x.Exec(0).Alarms(); len(l) != 1 || l[0].At != 12 {
		t.Fatal(l)
	}
	does(t, x, api.Entry{Kind: api.EvTick, N: 1}, api.OK)
	pick(t, x, api.PickLoad, 0, 0)
	asks(t, x, 0, "/poll", object("queue", "q"), 200, `{"flow":"f","node":"b","try":1}`)
	if l := x.Exec(0).Alarms(); len(l) != 2 || l[0].At != 11 {
		t.Fatal(l)
	}
	unchanged(t, x, api.Entry{Kind: api.EvPick, What: api.PickFire}, api.ErrNone)
	does(t, x, api.Entry{Kind: api.EvTick, N: 3}, api.OK)
	pick(t, x, api.PickFire, 0, 0)
	if s := state(t, x, "f"); s.Status != api.Broken || s.Text != "timeout" {
		t.Fatal(s)
	}
}

// P15.2 EvCrash, EvStart: what a host had in its memory is gone; incarnations never come again.
func TestCrashAndStart(t *testing.T) {
	x := ready(t, 2, 3, wText)
	starts(t, x, "f", "w")
	for n := range 2 {
		pick(t, x, api.PickLoad, n, 15)
	}
	for _, i := range []int{3, -1, 16, 1 << 40} {
		unchanged(t, x, api.Entry{Kind: api.EvCrash, Host: i}, api.ErrNone)
		unchanged(t, x, api.Entry{Kind: api.EvStart, Host: i}, api.ErrNone)
	}
	unchanged(t, x, api.Entry{Kind: api.EvStart}, api.ErrThere)
	was := storeTold(x.Store(0)) + storeTold(x.Store(1)) + leasesTold(x.Leases())
	does(t, x, api.Entry{Kind: api.EvCrash}, api.OK)
	unchanged(t, x, api.Entry{Kind: api.EvCrash}, api.ErrNone)
	if x.Host(0) != nil || x.Incarnation(0) != 0 {
		t.Fatal("it is up")
	}
	does(t, x, api.Entry{Kind: api.EvStart}, api.OK)
	if h := x.Host(0); h == nil || x.Incarnation(0) != 4 || len(h.Owns()) != 0 || h.View().Version != 0 || len(h.Pending(0))+len(h.Pending(1)) != 0 {
		t.Fatal(hostTold(h, 2))
	}
	if storeTold(x.Store(0))+storeTold(x.Store(1))+leasesTold(x.Leases()) != was {
		t.Fatal("a crash of a host has changed what lasts")
	}
	asks(t, x, 0, "/query?flow=f", "", 307, owner(-1))
	given := 4
	for k := range 30 {
		i := k * 7 % 3
		does(t, x, api.Entry{Kind: api.EvCrash, Host: i}, api.OK)
		unchanged(t, x, api.Entry{Kind: api.EvPick, Host: i, What: api.PickOwn}, api.ErrNone)
		does(t, x, api.Entry{Kind: api.EvStart, Host: i}, api.OK)
		unchanged(t, x, api.Entry{Kind: api.EvStart, Host: i}, api.ErrThere)
		given++
		if x.Incarnation(i) != given {
			t.Fatal(x.Incarnation(i), given)
		}
	}
	view(t, x, 1, 0) // the incarnation is the owner in leases
	pick(t, x, api.PickOwn, 0, 0)
	if l, _ := x.Leases().Get(0); l != (api.Lease{Owner: x.Incarnation(0), Range: 2}) {
		t.Fatal(l)
	}
}

// P15.2 EvView: what Learn refuses is ErrOrder.
func TestViews(t *testing.T) {
	x := made(t, 2, 3, wText)
	does(t, x, api.Entry{Kind: api.EvCrash, Host: 2}, api.OK)
	good := api.View{Version: 5, Hosts: []int{0, 2}}
	for _, i := range []int{2, 3, -1} {
		unchanged(t, x, api.Entry{Kind: api.EvView, Host: i, View: good}, api.ErrNone)
	}
	for _, v := range []api.View{{}, {Hosts: []int{0}}, {Version: -1}, {Version: 1, Hosts: []int{3}}, {Version: 1, Hosts: []int{1, 0}}, {Version: 1, Hosts: []int{1, 1}}, {Version: 1, Hosts: []int{-1}}, {Version: api.MaxNumber + 1}} {
		unchanged(t, x, api.Entry{Kind: api.EvView, Host: 1, View: v}, api.ErrOrder)
	}
	does(t, x, api.Entry{Kind: api.EvView, Host: 1, View: good}, api.OK)
	if v := x.Host(1).View(); v.Version != 5 || !slices.Equal(v.Hosts, good.Hosts) || x.Host(0).View().Version != 0 {
		t.Fatal(v)
	}
	for _, version := range []int{5, 4, 0} {
		unchanged(t, x, api.Entry{Kind: api.EvView, Host: 1, View: api.View{Version: version, Hosts: []int{1}}}, api.ErrOrder)
	}
	does(t, x, api.Entry{Kind: api.EvView, Host: 1, View: api.View{Version: api.MaxNumber}}, api.OK)
}

// P15.2 EvTick: what Tick refuses is ErrArg.
func TestTicks(t *testing.T) {
	x := made(t, 1, 1)
	for _, n := range []int{0, -1, -1 << 63, api.MaxTime + 1, 1<<63 - 1} {
		unchanged(t, x, api.Entry{Kind: api.EvTick, N: n}, api.ErrArg)
	}
	for _, n := range []int{1, 41} {
		does(t, x, api.Entry{Kind: api.EvTick, N: n, Host: 9, Shard: 9}, api.OK)
	}
	if x.Now() != 42 {
		t.Fatal(x.Now())
	}
	unchanged(t, x, api.Entry{Kind: api.EvTick, N: api.MaxTime - 41}, api.ErrArg)
	does(t, x, api.Entry{Kind: api.EvTick, N: api.MaxTime - 42}, api.OK)
	unchanged(t, x, api.Entry{Kind: api.EvTick, N: 1}, api.ErrArg)
	if x.Now() != api.MaxTime {
		t.Fatal(x.Now())
	}
}

// P15.2 EvPick: each what, and its refusals.
func TestPicks(t *testing.T) {
	to := flowOf(1, 2, 0)
	f := flowOf(0, 2, 0)
	x := made(t, 2, 2, "workflow w\na send "+to+" s\nb activity q\nc timer 2\nd wait s")
	does(t, x, api.Entry{Kind: api.EvCrash, Host: 1}, api.OK)
	for what := range 9 {
		for _, i := range []int{1, 2, -1} {
			unchanged(t, x, api.Entry{Kind: api.EvPick, Host: i, What: what}, api.ErrNone)
		}
		for _, n := range []int{2, -1, 16} {
			unchanged(t, x, api.Entry{Kind: api.EvPick, What: what, Shard: n}, api.ErrArg)
		}
		switch {
		case what < api.PickOwn || what > api.PickRenew:
			unchanged(t, x, api.Entry{Kind: api.EvPick, What: what}, api.ErrArg)
		case what > api.PickOwn:
			unchanged(t, x, api.Entry{Kind: api.EvPick, What: what}, api.ErrOwner)
		}
	}
	unchanged(t, x, api.Entry{Kind: api.EvPick, What: api.PickOwn}, api.OK) // by no view anything is its own
	view(t, x, 1, 0)
	for n := range 2 {
		pick(t, x, api.PickOwn, n, 0)
	}
	if o := x.Host(0).Owns(); !slices.Equal(o, []int{0, 1}) {
		t.Fatal(o)
	}
	starts(t, x, to, "w")
	starts(t, x, f, "w")
	pick(t, x, api.PickLoad, 0, -1)
	if l := x.Host(0).Pending(0); len(l) != 1 || l[0].Flow != f || len(x.Host(0).Pending(1)) != 0 {
		t.Fatal(l)
	}
	asks(t, x, 0, "/poll", object("queue", "q"), 200, `{"flow":"`+f+`","node":"b","try":1}`)
	pick(t, x, api.PickAck, 0, 0)
	if l := x.Exec(0).Dispatches(); len(l) != 0 {
		t.Fatal(l)
	}
	unchanged(t, x, api.Entry{Kind: api.EvPick, What: api.PickFire}, api.ErrNone)
	does(t, x, api.Entry{Kind: api.EvTick, N: 2}, api.OK)
	pick(t, x, api.PickFire, 0, 0)
	unchanged(t, x, api.Entry{Kind: api.EvPick, What: api.PickFire}, api.ErrNone)
	for _, n := range []int{2, -1} {
		unchanged(t, x, api.Entry{Kind: api.EvPick, What: api.PickMail, N: n}, api.ErrArg)
	}
	unchanged(t, x, api.Entry{Kind: api.EvPick, What: api.PickMail, N: 0}, api.ErrNone)
	pick(t, x, api.PickMail, 0, 1)
	p, _ := x.Net().Look(0)
	e, _, _ := codec.ReadEnvelope(p.Bytes)
	if x.Net().Len() != 1 || p.From != 0 || p.To != 0 || e.Seq != 1 || e.Mail.To != to || e.Mail.Kind != api.MailSignal {
		t.Fatal(p, e)
	}
	pick(t, x, api.PickRenew, 0, 0)
	l, _ := x.Leases().Get(0)
	x.Leases().Swap(0, l, 99)
	does(t, x, api.Entry{Kind: api.EvPick, What: api.PickRenew}, api.ErrOwner)
	view(t, x, 2)
	pick(t, x, api.PickOwn, 1, 0)
	if o := x.Host(0).Owns(); len(o) != 0 {
		t.Fatal(o)
	}
}

// mailed is a cluster with three mails of one outbox, and that many parcels of the first under way.
func mailed(t *testing.T, parcels int) (*engine.Cluster, string) {
	t.Helper()
	to := flowOf(1, 2, 0)
	x := ready(t, 2, 2, fmt.Sprintf("workflow w\na send %s s\nb send %s s\nc send %s s\nd activity q", to, to, to), "workflow v\na wait s\nb wait s\nc wait s\nd wait s")
	starts(t, x, to, "v")
	starts(t, x, flowOf(0, 2, 0), "w")
	for range parcels {
		pick(t, x, api.PickMail, 0, 1)
	}
	return x, to
}

// P15.2 EvDeliver, EvDrop, EvDouble: ErrNone with nothing under way; else N modulo how many there are.
func TestParcelsByNumber(t *testing.T) {
	x, to := mailed(t, 0)
	for _, kind := range []int{api.EvDeliver, api.EvDrop, api.EvDouble} {
		for _, n := range []int{0, 1, -1, -1 << 63} {
			unchanged(t, x, api.Entry{Kind: kind, N: n}, api.ErrNone)
		}
	}
	row := func() string {
		s := ""
		for _, p := range x.Net().All() {
			s += string(p.Bytes)
		}
		return s
	}
	send := func(names string) {
		for x.Net().Len() > 0 {
			x.Net().Drop(0)
		}
		for _, b := range names {
			x.Net().Send(api.Parcel{To: 1, Bytes: []byte(string(b))}) // what no host understands
		}
	}
	for _, k := range []struct {
		kind, n int
		want    string
	}{
		{api.EvDrop, 0, "bcde"}, {api.EvDrop, 4, "abcd"}, {api.EvDrop, 5, "bcde"}, {api.EvDrop, 12, "abde"}, {api.EvDrop, -1, "abcd"}, {api.EvDrop, -5, "bcde"}, {api.EvDrop, -6, "abcd"}, {api.EvDrop, 1<<63 - 1, "abde"}, {api.EvDrop, -1 << 63, "abde"},
		{api.EvDouble, 0, "abcdea"}, {api.EvDouble, 8, "abcded"}, {api.EvDouble, -2, "abcded"}, {api.EvDouble, -1 << 63, "abcdec"},
		{api.EvDeliver, 0, "bcde"}, {api.EvDeliver, 6, "acde"}, {api.EvDeliver, -1, "abcd"}, {api.EvDeliver, -1 << 63, "abde"},
	} {
		send("abcde")
		does(t, x, api.Entry{Kind: k.kind, N: k.n}, api.OK)
		if row() != k.want {
			t.Errorf("%d of %d: %s, want %s", k.kind, k.n, row(), k.want)
		}
	}
	if s := state(t, x, to); s.Events != 5 {
		t.Fatal(s)
	}
}

// P15.2 EvDeliver: what Handle sends is sent; to a host that is down, or is none, it is lost.
func TestDeliveries(t *testing.T) {
	x, to := mailed(t, 3)
	does(t, x, api.Entry{Kind: api.EvDeliver, N: 1}, api.OK)
	p, _ := x.Net().Look(2)
	if e, _, why := codec.ReadEnvelope(p.Bytes); why != api.OK || x.Net().Len() != 3 || e.Kind != api.EnvAck || e.Seq != 1 || state(t, x, to).Events != 6 {
		t.Fatal(e, x.Net().Len(), state(t, x, to))
	}
	does(t, x, api.Entry{Kind: api.EvDeliver, N: 2}, api.OK)
	if x.Net().Len() != 2 || len(x.Exec(0).Outbox(1)) != 2 {
		t.Fatal(x.Net().Len(), x.Exec(0).Outbox(1))
	}
	first, _ := x.Net().Look(0)
	does(t, x, api.Entry{Kind: api.EvCrash}, api.OK)
	lost := storeTold(x.Store(0)) + storeTold(x.Store(1))
	for x.Net().Len() > 0 {
		does(t, x, api.Entry{Kind: api.EvDeliver}, api.OK)
	}
	for _, i := range []int{-1, 2, 16, -1 << 63, 1<<63 - 1} {
		x.Net().Send(api.Parcel{To: i, Bytes: first.Bytes})
		does(t, x, api.Entry{Kind: api.EvDeliver}, api.OK)
	}
	x.Net().Send(api.Parcel{To: 1, Bytes: first.Bytes}) // host 1 is up, and holds nothing
	does(t, x, api.Entry{Kind: api.EvDeliver}, api.OK)
	if x.Net().Len() != 0 || storeTold(x.Store(0))+storeTold(x.Store(1)) != lost {
		t.Fatal("what was lost has done something")
	}
}

// P15.2 EvDouble, EvPick: a net that is full.
func TestFullNet(t *testing.T) {
	x, to := mailed(t, 1)
	for x.Net().Len() < api.MaxNet {
		does(t, x, api.Entry{Kind: api.EvDouble, N: x.Net().Len() * 3}, api.OK)
	}
	unchanged(t, x, api.Entry{Kind: api.EvDouble}, api.ErrFull)
	unchanged(t, x, api.Entry{Kind: api.EvDouble, N: -7}, api.ErrFull)
	unchanged(t, x, api.Entry{Kind: api.EvPick, What: api.PickMail, N: 1}, api.OK) // it is lost
	does(t, x, api.Entry{Kind: api.EvDeliver, N: 7}, api.OK)
	if x.Net().Len() != api.MaxNet || state(t, x, to).Events != 6 { // the acknowledgement has the room of the mail
		t.Fatal(x.Net().Len())
	}
	does(t, x, api.Entry{Kind: api.EvDrop}, api.OK)
	if x.Net().Len() != api.MaxNet-1 {
		t.Fatal(x.Net().Len())
	}
	for range 40 { // all the others are old
		does(t, x, api.Entry{Kind: api.EvDeliver, N: 5}, api.OK)
	}
	if s := state(t, x, to); s.Events != 6 {
		t.Fatal(s)
	}
}

// P15.2 EvFail, EvStop, EvLose: of the shard's disk, the leases', one that there is not.
func TestTrouble(t *testing.T) {
	x := ready(t, 3, 2, oneText)
	for _, kind := range []int{api.EvFail, api.EvStop, api.EvLose} {
		for _, n := range []int{-2, 3, 16, -1 << 63, 1<<63 - 1} {
			unchanged(t, x, api.Entry{Kind: kind, Shard: n}, api.ErrArg)
		}
	}
	start := func(n, k int, status int) {
		t.Helper()
		if got, answer := asked(t, x, 0, "/start", object("flow", flowOf(n, 3, k), "def", "one")); got != status {
			t.Fatal(n, k, got, answer)
		}
	}
	does(t, x, api.Entry{Kind: api.EvFail, Shard: 1}, api.OK)
	start(0, 0, 200)
	start(1, 0, 503)
	start(1, 1, 200) // the fault is spent
	does(t, x, api.Entry{Kind: api.EvFail, Shard: 1, N: 1}, api.OK)
	was := x.Disk(1).Ops()
	start(1, 2, 503)
	if x.Disk(1).Ops() < was+2 {
		t.Fatal("the fault strikes too early")
	}
	start(1, 3, 200)
	x.Disk(1).Append(1<<40, []byte("abcd"))
	does(t, x, api.Entry{Kind: api.EvFail, Shard: 1, Kind2: 2}, api.OK)
	x.Disk(1).Append(1<<40, []byte("wxyz"))
	if got := string(x.Disk(1).Read(1 << 40)); got != "abcdwx" { // Kind2 is the kind
		t.Fatal(got)
	}
	x.Disk(1).Delete(1 << 40)
	does(t, x, api.Entry{Kind: api.EvStop, Shard: 2}, api.OK)
	start(2, 0, 503)
	start(2, 1, 503)
	start(0, 1, 200)
	does(t, x, api.Entry{Kind: api.EvStop, Shard: -1}, api.OK)
	start(0, 2, 200)
	view(t, x, 2)
	does(t, x, api.Entry{Kind: api.EvPick, What: api.PickOwn}, api.ErrDead) // the lease is not given back
	does(t, x, api.Entry{Kind: api.EvStop, Shard: -1, N: 100}, api.OK)
	does(t, x, api.Entry{Kind: api.EvFail, Shard: -1}, api.OK)
	does(t, x, api.Entry{Kind: api.EvPick, What: api.PickOwn, Shard: 1}, api.ErrIO)
	does(t, x, api.Entry{Kind: api.EvPick, What: api.PickOwn, Shard: 2}, api.OK)
}

// P15.2 EvLose of a shard's disk: all hosts that are up forget that shard, no other, and have the new store.
func TestLoseShard(t *testing.T) {
	x := ready(t, 3, 3, oneText)
	does(t, x, api.Entry{Kind: api.EvCrash, Host: 2}, api.OK)
	for k := range 3 {
		starts(t, x, flowOf(k, 3, 0), "one")
	}
	does(t, x, api.Entry{Kind: api.EvView, Host: 1, View: api.View{Version: 2, Hosts: []int{1}}}, api.OK)
	does(t, x, api.Entry{Kind: api.EvPick, Host: 1, What: api.PickOwn, Shard: 1}, api.OK)
	does(t, x, api.Entry{Kind: api.EvPick, Host: 1, What: api.PickOwn, Shard: 2}, api.OK)
	if !slices.Equal(x.Host(0).Owns(), []int{0, 1, 2}) || !slices.Equal(x.Host(1).Owns(), []int{1, 2}) {
		t.Fatal(x.Host(0).Owns(), x.Host(1).Owns())
	}
	old, other, table := x.Store(1), x.Store(2), x.Leases()
	x.Disk(1).Append(3, []byte("not kept"))
	x.Disk(2).Append(3, []byte("not kept"))
	does(t, x, api.Entry{Kind: api.EvStop, Shard: 1}, api.OK)
	does(t, x, api.Entry{Kind: api.EvLose, Shard: 1, Cuts: []int{0, 0, 0, 0}}, api.OK)
	if !slices.Equal(x.Host(0).Owns(), []int{0, 2}) || !slices.Equal(x.Host(1).Owns(), []int{2}) {
		t.Fatal(x.Host(0).Owns(), x.Host(1).Owns())
	}
	if x.Store(1) == old || x.Store(2) != other || x.Leases() != table || len(x.Disk(1).Read(3)) != 0 || len(x.Disk(2).Read(3)) == 0 {
		t.Fatal("which are new")
	}
	asks(t, x, 0, "/query?flow="+flowOf(1, 3, 0), "", 307, owner(0))
	pick(t, x, api.PickOwn, 1, 0)
	asks(t, x, 0, "/start", object("flow", flowOf(1, 3, 1), "def", "one"), 200, events(2))
	if s := state(t, x, flowOf(1, 3, 1)); s.Events != 2 || x.Store(1).Fence() != 3 || old.Fence() != 2 {
		t.Fatal("the host has another store than the cluster")
	}
	does(t, x, api.Entry{Kind: api.EvStart, Host: 2}, api.OK) // one that is made later, too
	does(t, x, api.Entry{Kind: api.EvView, Host: 2, View: api.View{Version: 3, Hosts: []int{2}}}, api.OK)
	does(t, x, api.Entry{Kind: api.EvPick, Host: 2, What: api.PickOwn, Shard: 1}, api.OK)
	asks(t, x, 2, "/start", object("flow", flowOf(1, 3, 2), "def", "one"), 200, events(2))
	if len(x.Exec(1).Flows()) != 3 || x.Store(1).Fence() != 4 {
		t.Fatal(x.Exec(1).Flows(), x.Store(1).Fence())
	}
}

// P15.2 EvLose: the cuts are the Crash's.
func TestLoseCuts(t *testing.T) {
	for cut := range 9 {
		x := made(t, 1, 1)
		for _, n := range []int{-1, 0} {
			d := x.Disk(n)
			d.Append(1<<40, []byte("abcd"))
			does(t, x, api.Entry{Kind: api.EvLose, Shard: n, Cuts: []int{cut}}, api.OK)
			want := []byte("abcd")[:(cut+1)/2]
			if cut > 0 && cut%2 == 0 {
				want[len(want)-1] = 255 - want[len(want)-1]
			}
			if got := d.Read(1 << 40); string(got) != string(want) {
				t.Errorf("%d, %d: %q, want %q", n, cut, got, want)
			}
		}
	}
}

// P15.2 EvLose of the leases' disk: all hosts that are up forget all, and have the new table.
func TestLoseLeases(t *testing.T) {
	x := ready(t, 2, 2, oneText)
	does(t, x, api.Entry{Kind: api.EvView, Host: 1, View: api.View{Version: 2, Hosts: []int{1}}}, api.OK)
	does(t, x, api.Entry{Kind: api.EvPick, Host: 1, What: api.PickOwn, Shard: 1}, api.OK)
	starts(t, x, flowOf(0, 2, 0), "one")
	old, was := x.Leases(), leasesTold(x.Leases())
	does(t, x, api.Entry{Kind: api.EvStop, Shard: -1}, api.OK)
	stores := storeTold(x.Store(0)) + storeTold(x.Store(1))
	does(t, x, api.Entry{Kind: api.EvLose, Shard: -1, Cuts: []int{3, 4, 5}}, api.OK)
	if x.Leases() == old || strings.Fields(leasesTold(x.Leases()))[0] != strings.Fields(was)[0] || len(x.Host(0).Owns())+len(x.Host(1).Owns()) != 0 {
		t.Fatal(leasesTold(x.Leases()), was, x.Host(0).Owns(), x.Host(1).Owns())
	}
	if storeTold(x.Store(0))+storeTold(x.Store(1)) != stores {
		t.Fatal("a shard has changed")
	}
	pick(t, x, api.PickOwn, 0, 0)
	if l, _ := x.Leases().Get(0); l != (api.Lease{Owner: 1, Range: 2}) {
		t.Fatal(l)
	}
	does(t, x, api.Entry{Kind: api.EvCrash, Host: 1}, api.OK)
	does(t, x, api.Entry{Kind: api.EvStart, Host: 1}, api.OK) // one that is made later, too
	does(t, x, api.Entry{Kind: api.EvView, Host: 1, View: api.View{Version: 2, Hosts: []int{1}}}, api.OK)
	does(t, x, api.Entry{Kind: api.EvPick, Host: 1, What: api.PickOwn, Shard: 1}, api.OK)
	if l, _ := x.Leases().Get(1); l != (api.Lease{Owner: 3, Range: 3}) {
		t.Fatal(l)
	}
}

// script is some entries of several kinds.
func script() []api.Entry {
	return []api.Entry{
		{Kind: api.EvView, View: api.View{Version: 1, Hosts: []int{0}}},
		{Kind: api.EvPick, What: api.PickOwn},
		{Kind: api.EvRequest, Bytes: bytesOf("/start", object("flow", "f", "def", "one"))},
		{Kind: api.EvTick, N: 3},
		{Kind: api.EvRequest, Host: 7, Bytes: bytesOf("/start", object("flow", "g", "def", "one"))},
		{Kind: 99},
		{Kind: api.EvRequest, Bytes: []byte("x")},
		{Kind: api.EvLose, Cuts: []int{0, 0, 5, 5, 5}},
	}
}

// P15.2 Run: it does the entries as it is ranged over, and tells their numbers and bytes; stopped anywhere, it does no more.
func TestRun(t *testing.T) {
	for stop := range len(script()) + 1 {
		x, y := made(t, 1, 1, oneText), made(t, 1, 1, oneText)
		run := x.Run(script())
		if told(x) != told(y) {
			t.Fatal("it has done something ahead of its time")
		}
		next := 0
		for i, b := range run {
			want, _ := y.Do(script()[next])
			if i != next || string(b) != string(want) || told(x) != told(y) {
				t.Fatalf("%d: %d %q, want %q", next, i, b, want)
			}
			next++
			if next == stop {
				break
			}
		}
		if next != max(1, stop) && next != len(script()) {
			t.Fatal(next, stop)
		}
		if told(x) != told(y) {
			t.Fatal("it has done more")
		}
	}
}

// P15.2, R1: Run may be ranged over many times, each time it does all of them; also one within another.
func TestRunTwice(t *testing.T) {
	x, y := made(t, 1, 1, oneText), made(t, 1, 1, oneText)
	run := x.Run(script())
	for range 3 {
		for i := range run {
			y.Do(script()[i])
			if i == 4 {
				break
			}
		}
		for i := range run {
			y.Do(script()[i])
			if i == 2 {
				for k := range run {
					y.Do(script()[k])
				}
			}
		}
	}
	if x.Now() != 27 || told(x) != told(y) {
		t.Fatal(told(x), told(y))
	}
	for range x.Run(nil) {
		t.Fatal("there is an entry")
	}
}

// R2: what Do and Run are handed is neither changed nor kept, its spare room included.
func TestEntriesAreNotKept(t *testing.T) {
	room := func(l []api.Entry) []api.Entry { // all lists have spare room
		for i := range l {
			l[i].Bytes = append(make([]byte, 0, len(l[i].Bytes)+9), l[i].Bytes...)
			l[i].View.Hosts = append(make([]int, 0, 9), l[i].View.Hosts...)
			l[i].Cuts = append(make([]int, 0, 9), l[i].Cuts...)
		}
		return append(make([]api.Entry, 0, 20), l...)
	}
	whole := func(l []api.Entry) string {
		s := ""
		for _, e := range l[:cap(l)] {
			s += fmt.Sprintln(e, e.Bytes[:cap(e.Bytes)], e.View.Hosts[:cap(e.View.Hosts)], e.Cuts[:cap(e.Cuts)])
		}
		return s
	}
	spoil := func(l []api.Entry) {
		for i := range l {
			e := &l[i]
			for _, part := range [][]int{e.View.Hosts, e.Cuts} {
				for k := range part {
					part[k] = 77
				}
			}
			for k := range e.Bytes {
				e.Bytes[k] = 'x'
			}
			*e = api.Entry{Kind: api.EvTick, N: 1000}
		}
	}
	x, y := made(t, 1, 1, oneText), made(t, 1, 1, oneText)
	for _, c := range []*engine.Cluster{x, y} {
		c.Disk(0).Append(1<<40, []byte("what a crash may cut"))
	}
	l := room(script())
	was := whole(l)
	run := x.Run(l)
	if whole(l) != was {
		t.Fatal(whole(l))
	}
	spoil(l) // ahead of its being ranged over
	for range 2 {
		for i, b := range run {
			if want, _ := y.Do(script()[i]); string(b) != string(want) || told(x) != told(y) {
				t.Fatalf("it has kept the list: %d: %q, not %q", i, b, want)
			}
			clear(b[:cap(b)])
		}
	}
	l = room(script())
	was = whole(l)
	for range x.Run(l) {
	}
	for range y.Run(l) {
	}
	if whole(l) != was || told(x) != told(y) {
		t.Fatal(whole(l))
	}
	for _, e := range room(script()) {
		one := []api.Entry{e}
		was := whole(one)
		b, _ := x.Do(e)
		if whole(one) != was {
			t.Fatal(whole(one))
		}
		y.Do(e)
		clear(b[:cap(b)])
		spoil(one)
		if told(x) != told(y) {
			t.Fatal("it has kept an entry")
		}
	}
}
