package engine_test

import (
	"fmt"
	"slices"
	"strings"
	"testing"

	"tiller/api"
	"tiller/codec"
	"tiller/engine"
)

// P15.4 Round with no view: each PickOwn is OK, and nothing changes.
func TestRoundWithoutViews(t *testing.T) {
	for shards := 1; shards <= 3; shards++ {
		for hosts := 1; hosts <= 3; hosts++ {
			x := made(t, shards, hosts, wText)
			was := told(x)
			if n := x.Round(); n != shards*hosts || told(x) != was {
				t.Fatal(shards, hosts, n)
			}
			does(t, x, api.Entry{Kind: api.EvCrash, Host: hosts - 1}, api.OK)
			was = told(x)
			if n := x.Round(); n != shards*(hosts-1) || told(x) != was {
				t.Fatal(shards, hosts, n)
			}
		}
	}
}

// P15.4 Round: which Picks there are, and how many of them are OK.
func TestRoundCounts(t *testing.T) {
	x := made(t, 2, 1, "workflow t\na timer 2\nb timer 2\nc timer 9", oneText)
	view(t, x, 1, 0)
	if n := x.Round(); n != 6 { // Own, Load, Ack of each
		t.Fatal(n)
	}
	if n := x.Round(); n != 6 {
		t.Fatal(n)
	}
	f := flowOf(0, 2, 0)
	starts(t, x, f, "t")
	if n := x.Round(); n != 6 {
		t.Fatal(n)
	}
	does(t, x, api.Entry{Kind: api.EvTick, N: 2}, api.OK)
	if n := x.Round(); n != 8 || len(x.Exec(0).Alarms()) != 1 {
		t.Fatal(n)
	}
	does(t, x, api.Entry{Kind: api.EvStop, Shard: 1}, api.OK)
	if n := x.Round(); n != 6 { // an Ack that has nothing to do needs no disk
		t.Fatal(n)
	}
	starts(t, x, flowOf(0, 2, 1), "one")
	x.Round()
	if works(t, x, 0, "q") != 1 {
		t.Fatal("there is no work")
	}
	does(t, x, api.Entry{Kind: api.EvFail, Shard: 0}, api.OK)
	if n := x.Round(); n != 5 || len(x.Exec(0).Dispatches()) != 1 { // the Ack is refused
		t.Fatal(n)
	}
	if n := x.Round(); n != 6 || len(x.Exec(0).Dispatches()) != 0 {
		t.Fatal(n)
	}
}

// P15.4 Round: a PickOwn that is refused is not counted, and nothing more is done for that shard.
func TestRoundRefused(t *testing.T) {
	x := made(t, 2, 1, wText)
	view(t, x, 1, 0)
	does(t, x, api.Entry{Kind: api.EvFail, Shard: -1}, api.OK)
	if n := x.Round(); n != 3 || !slices.Equal(x.Host(0).Owns(), []int{1}) {
		t.Fatal(n, x.Host(0).Owns())
	}
	view(t, x, 2)
	if n := x.Round(); n != 2 || len(x.Host(0).Owns()) != 0 { // Own gives it back: no Load, no Ack
		t.Fatal(n, x.Host(0).Owns())
	}
}

// P15.4 Round: PickLoad loads sixteen.
func TestRoundLoads(t *testing.T) {
	x := ready(t, 1, 1, oneText)
	for k := range 40 {
		starts(t, x, fmt.Sprint("f", k), "one")
	}
	for _, want := range []int{16, 32, 40, 40} {
		x.Round()
		if l := x.Host(0).Pending(0); len(l) != want {
			t.Fatal(len(l), want)
		}
	}
}

// P15.4 Round: PickFire as long as it is OK, at most MaxFlows times; a refusal ends them, and the mails go on.
func TestRoundFires(t *testing.T) {
	text := "workflow t\n"
	for k := range 30 {
		text += fmt.Sprintf("n%d timer 1\n", k)
	}
	x := ready(t, 1, 1, text+"z wait s")
	for k := range 10 {
		starts(t, x, fmt.Sprint("f", k), "t")
	}
	does(t, x, api.Entry{Kind: api.EvTick, N: 1}, api.OK)
	if n := x.Round(); n != 3+api.MaxFlows || len(x.Exec(0).Alarms()) != 300-api.MaxFlows {
		t.Fatal(n, len(x.Exec(0).Alarms()))
	}
	if x.Still() {
		t.Fatal("alarms are due")
	}
	does(t, x, api.Entry{Kind: api.EvFail}, api.OK)
	if n := x.Round(); n != 3 || len(x.Exec(0).Alarms()) != 300-api.MaxFlows {
		t.Fatal(n, len(x.Exec(0).Alarms()))
	}
	if n := x.Round(); n != 3+300-api.MaxFlows || len(x.Exec(0).Alarms()) != 0 || !x.Still() {
		t.Fatal(n, len(x.Exec(0).Alarms()))
	}
}

// P15.4 Round: a PickMail to each shard, rising; what is sent is delivered, and what is answered then, too.
func TestRoundMails(t *testing.T) {
	text := "workflow w\n"
	for k := range 3 {
		for n := range 3 {
			text += fmt.Sprintf("n%d%d send %s s\n", k, n, flowOf(n, 3, 0))
		}
	}
	x := ready(t, 3, 1, text, "workflow v\na wait s\nb wait s\nc wait s\nd wait s")
	for n := range 3 {
		starts(t, x, flowOf(n, 3, 0), "v")
	}
	starts(t, x, flowOf(1, 3, 1), "w")
	for k := range 3 {
		if x.Still() {
			t.Fatal("mails wait")
		}
		if n := x.Round(); n != 9+3 || x.Net().Len() != 0 {
			t.Fatal(n, x.Net().Len())
		}
		for n := range 3 {
			if s := state(t, x, flowOf(n, 3, 0)); s.Events != 6+k || len(x.Exec(1).Outbox(n)) != 2-k {
				t.Fatal(k, n, s, x.Exec(1).Outbox(n))
			}
		}
	}
	if n := x.Round(); n != 9 || !x.Still() {
		t.Fatal(n)
	}
}

// P15.4 Round: parcels that are under way already are delivered first; what the second turn's answers are stays under way.
func TestRoundWithParcelsUnderWay(t *testing.T) {
	x, to := mailed(t, 2)
	far := flowOf(0, 2, 0)
	if n := x.Round(); n != 6+1+2 { // two of the first mail were under way, a third is sent; host 1 has no view
		t.Fatal(n)
	}
	if s := state(t, x, to); s.Events != 6 || x.Net().Len() != 0 || len(x.Exec(0).Outbox(1)) != 2 || state(t, x, far).Events != 5 {
		t.Fatal(s, x.Net().Len())
	}
	envelope := x.Exec(0).Outbox(1)[0]
	raw, _ := codec.Envelope(envelope)
	// A host that holds the target alone answers to a host for the source: there the answer arrives in the second turn.
	x.Net().Send(api.Parcel{From: 0, To: 0, Bytes: raw})
	x.Net().Send(api.Parcel{From: 0, To: 1, Bytes: raw}) // lost: host 1 holds nothing
	x.Round()
	if s := state(t, x, to); s.Events != 7 || x.Net().Len() != 0 || len(x.Exec(0).Outbox(1)) != 1 {
		t.Fatal(s, x.Net().Len())
	}
}

// P15.4 Round: of parcels to hosts that are down nothing comes; they are under way no more.
func TestRoundLosesParcels(t *testing.T) {
	x, to := mailed(t, 5)
	does(t, x, api.Entry{Kind: api.EvCrash}, api.OK)
	if n := x.Round(); n != 2 || x.Net().Len() != 0 || state(t, x, to).Events != 5 {
		t.Fatal(n, x.Net().Len())
	}
}

// P15.4 Round: two turns of deliveries, in each as many as were under way ahead of it, from the first on.
func TestRoundDeliversTwice(t *testing.T) {
	x := made(t, 12, 11, "workflow w\na wait s\nb wait s")
	view(t, x, 1, 0, 10)
	x.Round()
	starts(t, x, flowOf(0, 12, 0), "w")
	mail := func(seq int) api.Parcel { // such as no host of this cluster has sent
		raw, _ := codec.Envelope(api.Envelope{Kind: api.EnvMail, From: 11, To: 0, Seq: seq, Mail: api.Mail{Kind: api.MailSignal, To: flowOf(0, 12, 0), Name: "s"}})
		return api.Parcel{From: 10, To: 0, Bytes: raw}
	}
	does(t, x, api.Entry{Kind: api.EvCrash, Host: 10}, api.OK)
	for _, seq := range []int{2, 1, 2, 1} {
		x.Net().Send(mail(seq))
	}
	x.Round() // 2 is ahead, 1 is taken, 2 is taken, 1 is old; the acknowledgements go to a host that is down
	if s := state(t, x, flowOf(0, 12, 0)); s.Status != api.Done || x.Net().Len() != 0 || x.Exec(0).Mark(11) != 2 {
		t.Fatal(s, x.Net().Len())
	}
}

// P15.4 Round with two hosts: each has what its view gives it, and mails go from host to host.
func TestRoundOfTwoHosts(t *testing.T) {
	texts := []string{"workflow p\na child one\nb child one\nc child one\nd child one", oneText}
	x := made(t, 12, 11, texts...)
	for i := 1; i < 10; i++ {
		does(t, x, api.Entry{Kind: api.EvCrash, Host: i}, api.OK)
	}
	view(t, x, 1, 0, 10)
	if n := x.Round(); n != 2*12+2*12 {
		t.Fatal(n)
	}
	if a, b := x.Host(0).Owns(), x.Host(10).Owns(); len(a) != 10 || !slices.Equal(b, []int{10, 11}) {
		t.Fatal(a, b)
	}
	for k := range 8 {
		f := fmt.Sprint("job", k)
		status, body := asked(t, x, 0, "/start", object("flow", f, "def", "p"))
		if status == 307 && body == owner(10) {
			status, _ = asked(t, x, 10, "/start", object("flow", f, "def", "p"))
		}
		if status != 200 {
			t.Fatal(f, status, body)
		}
	}
	if len(x.Exec(10).Flows())+len(x.Exec(11).Flows()) == 0 {
		t.Fatal("all are host 0's")
	}
	for range 30 {
		x.Round()
		works(t, x, 0, "q")
		works(t, x, 10, "q")
	}
	if rounds(x, 2); !x.Still() || len(x.Flows()) != 40 {
		t.Fatal(x.Still(), x.Flows())
	}
	for _, f := range x.Flows() {
		if s := state(t, x, f); s.Status != api.Done {
			t.Fatal(f, s)
		}
	}
}

// stillIs must be the answer, and the question must change nothing.
func stillIs(t *testing.T, x *engine.Cluster, want bool, why string) {
	t.Helper()
	was := told(x)
	if x.Still() != want {
		t.Fatalf("%s: it must be %v\n%s", why, want, was)
	}
	if x.Still() != want || told(x) != was {
		t.Fatal(why, ": it has changed something")
	}
}

// P15.4 Still: a shard that nobody holds open.
func TestStillWantsHolds(t *testing.T) {
	x := made(t, 2, 2, wText)
	stillIs(t, x, false, "nobody holds anything")
	view(t, x, 1, 0)
	pick(t, x, api.PickOwn, 0, 0)
	stillIs(t, x, false, "nobody holds shard 1")
	pick(t, x, api.PickOwn, 1, 0)
	stillIs(t, x, true, "nothing is there")
	does(t, x, api.Entry{Kind: api.EvView, Host: 1, View: api.View{Version: 2, Hosts: []int{1}}}, api.OK)
	does(t, x, api.Entry{Kind: api.EvPick, Host: 1, What: api.PickOwn, Shard: 0}, api.OK)
	stillIs(t, x, true, "two hosts have an open hold of shard 0")
	does(t, x, api.Entry{Kind: api.EvCrash, Host: 1}, api.OK)
	stillIs(t, x, true, "a hold that is fenced is open till it knows")
	starts(t, x, flowOf(1, 2, 0), "w")
	asks(t, x, 0, "/start", object("flow", flowOf(0, 2, 0), "def", "w"), 307, owner(0))
	stillIs(t, x, false, "the hold is closed")
	pick(t, x, api.PickOwn, 0, 0)
	pick(t, x, api.PickLoad, 1, 15)
	stillIs(t, x, true, "it is held again")
	does(t, x, api.Entry{Kind: api.EvLose, Shard: 1}, api.OK)
	stillIs(t, x, false, "the hold is forgotten")
	rounds(x, 1)
	stillIs(t, x, true, "it is held again")
	does(t, x, api.Entry{Kind: api.EvLose, Shard: -1}, api.OK)
	stillIs(t, x, false, "all holds are forgotten")
	rounds(x, 1)
	does(t, x, api.Entry{Kind: api.EvCrash}, api.OK)
	stillIs(t, x, false, "no host is up")
}

// P15.4 Still: an outbox, to another shard or to the own one; a parcel, whatever it is.
func TestStillWantsNoMails(t *testing.T) {
	for n := range 2 {
		to := flowOf(n, 2, 0)
		x := ready(t, 2, 1, "workflow w\na send "+to+" s")
		stillIs(t, x, true, "nothing is there")
		starts(t, x, flowOf(0, 2, 1), "w")
		stillIs(t, x, false, "a mail is in its outbox")
		pick(t, x, api.PickMail, 0, n)
		does(t, x, api.Entry{Kind: api.EvDeliver}, api.OK)
		does(t, x, api.Entry{Kind: api.EvDrop}, api.OK)
		stillIs(t, x, false, "nobody has acknowledged it")
		pick(t, x, api.PickMail, 0, n)
		does(t, x, api.Entry{Kind: api.EvDouble}, api.OK)
		does(t, x, api.Entry{Kind: api.EvDeliver}, api.OK)
		does(t, x, api.Entry{Kind: api.EvDeliver, N: 1}, api.OK)
		stillIs(t, x, false, "a parcel is under way")
		does(t, x, api.Entry{Kind: api.EvDrop}, api.OK)
		stillIs(t, x, true, "all is done")
		x.Net().Send(api.Parcel{To: 99})
		stillIs(t, x, false, "a parcel to nobody is under way")
	}
}

// P15.4 Still: an alarm at or ahead of now; one that comes later, or is of no use, is none.
func TestStillWantsNoAlarm(t *testing.T) {
	x := ready(t, 1, 1, "workflow t\na timer 3\nb timer 5\nc wait s")
	starts(t, x, "f", "t")
	stillIs(t, x, true, "it is early")
	does(t, x, api.Entry{Kind: api.EvTick, N: 2}, api.OK)
	stillIs(t, x, true, "it is early")
	does(t, x, api.Entry{Kind: api.EvTick, N: 1}, api.OK)
	stillIs(t, x, false, "an alarm is at now")
	does(t, x, api.Entry{Kind: api.EvTick, N: 1}, api.OK)
	stillIs(t, x, false, "an alarm is ahead of now")
	pick(t, x, api.PickFire, 0, 0)
	stillIs(t, x, true, "the other is at 5")
	asks(t, x, 0, "/cancel", object("flow", "f"), 200, events(6))
	stillIs(t, x, true, "the other is at 5")
	does(t, x, api.Entry{Kind: api.EvTick, N: 1}, api.OK)
	stillIs(t, x, false, "an alarm is at now, though it means nothing")
	pick(t, x, api.PickFire, 0, 0)
	stillIs(t, x, true, "it is gone")
}

// P15.4 Still: a dispatch behind the cursor; what is loaded, pending or not, acknowledged or not, is none.
func TestStillWantsAllLoaded(t *testing.T) {
	x := ready(t, 1, 1, oneText, "workflow p\na activity p\nb activity q")
	for k := range 3 {
		starts(t, x, fmt.Sprint("f", k), "one")
	}
	stillIs(t, x, false, "three are behind the cursor")
	pick(t, x, api.PickLoad, 0, 1)
	stillIs(t, x, false, "one is behind the cursor")
	pick(t, x, api.PickLoad, 0, 0)
	stillIs(t, x, true, "three are pending")
	if works(t, x, 0, "q") != 3 {
		t.Fatal("three are not given out")
	}
	stillIs(t, x, true, "three are finished, and in the store")
	pick(t, x, api.PickAck, 0, 0)
	stillIs(t, x, true, "they are acknowledged")
	starts(t, x, "g", "p")
	starts(t, x, "h", "p")
	stillIs(t, x, false, "four are behind the cursor")
	rounds(x, 1)
	if works(t, x, 0, "q") != 2 || len(x.Host(0).Pending(0)) != 2 {
		t.Fatal("there is other work")
	}
	rounds(x, 2)
	if l := x.Exec(0).Dispatches(); len(l) != 4 { // the first one holds up the others
		t.Fatal(l)
	}
	stillIs(t, x, true, "two are pending, two are finished behind the first of these")
	works(t, x, 0, "p")
	stillIs(t, x, true, "all are finished")
	starts(t, x, "i", "one")
	stillIs(t, x, false, "one is behind the cursor")
	pick(t, x, api.PickLoad, 0, 15)
	asks(t, x, 0, "/poll", object("queue", "q"), 200, `{"flow":"i","node":"a","try":1}`)
	stillIs(t, x, true, "it was taken")
}

// P15.4 Still: the cursor is the hold's own: a new one begins at the level.
func TestStillKnowsNewHolds(t *testing.T) {
	for _, way := range []string{"crash", "lose", "leases", "views", "other", "fenced"} {
		x := ready(t, 1, 2, oneText)
		starts(t, x, "f", "one")
		starts(t, x, "g", "one")
		pick(t, x, api.PickLoad, 0, 15)
		stillIs(t, x, true, "all are loaded")
		again := api.Entry{Kind: api.EvPick, What: api.PickOwn}
		switch way {
		case "crash":
			does(t, x, api.Entry{Kind: api.EvCrash}, api.OK)
			does(t, x, api.Entry{Kind: api.EvStart}, api.OK)
			does(t, x, api.Entry{Kind: api.EvView, View: api.View{Version: 1, Hosts: []int{0}}}, api.OK)
		case "lose":
			does(t, x, api.Entry{Kind: api.EvLose}, api.OK)
		case "leases":
			does(t, x, api.Entry{Kind: api.EvLose, Shard: -1}, api.OK)
		case "views":
			view(t, x, 2)
			does(t, x, again, api.OK)
			view(t, x, 3, 0)
		case "other":
			does(t, x, api.Entry{Kind: api.EvCrash}, api.OK)
			view(t, x, 2, 1)
			again.Host = 1
		case "fenced":
			x.Host(1).Learn(api.View{Version: 4, Hosts: []int{1}})
			x.Host(1).Pick(api.PickOwn, 0, 0, 0)
			does(t, x, api.Entry{Kind: api.EvCrash, Host: 1}, api.OK)
			asks(t, x, 0, "/cancel", object("flow", "f"), 307, owner(0))
		}
		stillIs(t, x, false, way+": nobody holds it")
		does(t, x, again, api.OK)
		stillIs(t, x, false, way+": nothing is loaded")
		again.What, again.N = api.PickLoad, 0
		does(t, x, again, api.OK)
		stillIs(t, x, false, way+": one is behind the cursor")
		does(t, x, again, api.OK)
		stillIs(t, x, true, way+": all are loaded again")
	}
}

// P15.4 Still: of several open holds one is enough, if it has all loaded.
func TestStillOfTwoHolds(t *testing.T) {
	x := ready(t, 1, 2, oneText)
	starts(t, x, "f", "one")
	does(t, x, api.Entry{Kind: api.EvView, Host: 1, View: api.View{Version: 2, Hosts: []int{1}}}, api.OK)
	does(t, x, api.Entry{Kind: api.EvPick, Host: 1, What: api.PickOwn}, api.OK)
	stillIs(t, x, false, "neither has loaded")
	pick(t, x, api.PickLoad, 0, 0)
	stillIs(t, x, true, "the first has, though it is fenced")
	does(t, x, api.Entry{Kind: api.EvPick, Host: 1, What: api.PickLoad}, api.OK)
	stillIs(t, x, true, "both have")
	does(t, x, api.Entry{Kind: api.EvCrash}, api.OK)
	stillIs(t, x, true, "the second has")
	starts2 := object("flow", "g", "def", "one")
	asks(t, x, 1, "/start", starts2, 200, events(2))
	stillIs(t, x, false, "a new one is behind the cursor")
}

// P15.4 Still: a pending task that is stale, till a poll finishes it.
func TestStillWantsNothingStale(t *testing.T) {
	x := ready(t, 1, 1, "workflow w\na activity q tries 3\nb activity p", oneText)
	starts(t, x, "f", "w")
	pick(t, x, api.PickLoad, 0, 15)
	stillIs(t, x, true, "two are pending")
	asks(t, x, 0, "/cancel", object("flow", "f"), 200, events(4))
	stillIs(t, x, false, "two are stale")
	rounds(x, 3)
	stillIs(t, x, false, "no round finishes them")
	asks(t, x, 0, "/poll", object("queue", "none"), 404, refused("none"))
	stillIs(t, x, true, "a poll has finished them")
	pick(t, x, api.PickAck, 0, 0)
	starts(t, x, "g", "w")
	pick(t, x, api.PickLoad, 0, 15)
	asks(t, x, 0, "/poll", object("queue", "q"), 200, `{"flow":"g","node":"a","try":1}`)
	asks(t, x, 0, "/fail", object("flow", "g", "node", "a", "try", 1), 200, events(5))
	stillIs(t, x, false, "the second try is behind the cursor")
	pick(t, x, api.PickLoad, 0, 15)
	stillIs(t, x, true, "it is pending")
	does(t, x, api.Entry{Kind: api.EvLose}, api.OK) // the first try comes again, and is stale
	pick(t, x, api.PickOwn, 0, 0)
	pick(t, x, api.PickLoad, 0, 15)
	stillIs(t, x, false, "the first try is stale")
	asks(t, x, 0, "/poll", object("queue", "p"), 200, `{"flow":"g","node":"b","try":1}`)
	stillIs(t, x, true, "the poll has finished it")
}

// R4: Still knows what was done with a host by itself, too.
func TestStillOfHostsThatAreUsed(t *testing.T) {
	x := ready(t, 1, 1, oneText, "workflow p\na activity p\nb activity q")
	h := x.Host(0)
	h.Request("POST", "/start", object("flow", "f", "def", "p"), 0)
	stillIs(t, x, false, "two are behind the cursor")
	h.Pick(api.PickLoad, 0, 15, 0)
	asks(t, x, 0, "/poll", object("queue", "q"), 200, `{"flow":"f","node":"b","try":1}`)
	stillIs(t, x, true, "one is pending, one finished")
	h.Request("POST", "/start", object("flow", "g", "def", "p"), 0)
	x.Round()
	if status, body := h.Request("POST", "/poll", object("queue", "q"), 0); status != 200 || !strings.Contains(body, `"g"`) {
		t.Fatal(status, body)
	}
	stillIs(t, x, true, "two are pending, two finished")
	h.Forget(0, nil)
	stillIs(t, x, false, "nobody holds it")
}

// P15.4 Still: a cursor begins at the level, wherever that is: what is not behind it nobody ever loads.
func TestStillBehindAGreatLevel(t *testing.T) {
	x := ready(t, 1, 1, oneText)
	for _, c := range x.Host(0).All() {
		if _, e := x.Exec(0).Advance(c, 9); e != api.OK {
			t.Fatal(e)
		}
	}
	does(t, x, api.Entry{Kind: api.EvLose}, api.OK)
	pick(t, x, api.PickOwn, 0, 0)
	starts(t, x, "f", "one")
	if l := x.Exec(0).Dispatches(); len(l) != 1 || l[0].ID != 2+1i {
		t.Fatal(l)
	}
	stillIs(t, x, true, "the dispatch is at 2+1i, the cursor at 9")
	pick(t, x, api.PickLoad, 0, 15)
	if l := x.Host(0).Pending(0); len(l) != 0 {
		t.Fatal(l)
	}
}
