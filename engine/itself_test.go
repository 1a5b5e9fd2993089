package engine_test

import (
	"fmt"
	"slices"
	"strings"
	"testing"

	"tiller/api"
	"tiller/engine"
	"tiller/front"
)

// Hosts that Host gave (P15.3) and that are asked by themselves: what a cluster tells hangs on what they did, not on who asked them.

// itself does an entry by the host that it is for, as far as a host can do it.
func itself(x *engine.Cluster, e api.Entry) ([]byte, api.Errno) {
	h, n := x.Host(e.Host), x.Net().Len()
	send := func(l []api.Parcel) {
		for _, p := range l {
			x.Net().Send(p)
		}
	}
	switch {
	case e.Kind == api.EvPick && h != nil:
		l, why := h.Pick(e.What, e.Shard, e.N, x.Now())
		send(l)
		return nil, why
	case e.Kind == api.EvRequest && h != nil:
		if method, path, body, status := front.Read(e.Bytes); status == 200 {
			return front.Reply(h.Request(method, path, body, x.Now())), api.OK
		}
	case e.Kind == api.EvView && h != nil:
		if h.Learn(e.View) {
			return nil, api.OK
		}
		return nil, api.ErrOrder
	case e.Kind == api.EvDeliver && n > 0:
		p, _ := x.Net().Take((e.N%n + n) % n)
		if to := x.Host(p.To); to != nil {
			send(to.Handle(p, x.Now()))
		}
		return nil, api.OK
	}
	return x.Do(e)
}

// P15.4, R4: scripts of all kinds, of which hosts do much by themselves: Still is asked now and then, and behind many of their calls.
func TestClustersWhoseHostsAreUsed(t *testing.T) {
	met := map[string]int{}
	for seed := range int64(200) {
		w := newTwins(t, seed, met)
		w.apart, w.a.calm = true, seed%2 == 0
		for _, e := range w.a.begin() {
			w.does(e)
		}
		for k := range 250 {
			w.step()
			if k%25 == 24 || w.a.r.Intn(10) == 0 {
				w.standing()
			}
		}
		w.standing()
	}
	for _, kind := range []string{"still true", "still false", "/poll 200", "/poll 404", "6 0", "7 0"} {
		if met[kind] == 0 {
			t.Error("never met:", kind)
		}
	}
}

// rows are all rows of so many of these.
func rows(many, of int) [][]int {
	list := [][]int{nil}
	for range many {
		var longer [][]int
		for _, row := range list {
			for k := range of {
				longer = append(longer, append(slices.Clone(row), k))
			}
		}
		list = longer
	}
	return list
}

// ask is a request to host 0, as an entry.
func ask(path string, parts ...any) api.Entry {
	return api.Entry{Kind: api.EvRequest, Bytes: bytesOf(path, object(parts...))}
}

// deeds are what a host does of a shard's dispatches, or what is done to these: each some entries.
func deeds() map[string][]api.Entry {
	pick := func(what, n int) api.Entry { return api.Entry{Kind: api.EvPick, What: what, N: n} }
	return map[string][]api.Entry{
		"load one": {pick(api.PickLoad, 0)},
		"load all": {pick(api.PickLoad, 15)},
		"poll":     {ask("/poll", "queue", "q")},
		"look":     {ask("/poll", "queue", "none")},
		"ack":      {pick(api.PickAck, 0)},
		"fail":     {ask("/fail", "flow", "f", "node", "a", "try", 1)},
		"cancel":   {ask("/cancel", "flow", "f")},
		"begin":    {ask("/start", "flow", "h", "def", "w")},
	}
}

// anew are the entries by which host 0 gives its shard back, and takes it again.
func anew(version int) []api.Entry {
	own := api.Entry{Kind: api.EvPick, What: api.PickOwn}
	return []api.Entry{
		{Kind: api.EvView, View: api.View{Version: version}}, own,
		{Kind: api.EvView, View: api.View{Version: version + 1, Hosts: []int{0}}}, own,
	}
}

// P15.4: every row of a host's loads, polls and acks, with what makes dispatches, or makes them stale, and with new holds between: it is still just when the model is, whether the host was asked by itself, by entries, or now so, now so. Between them nobody asks the cluster anything.
func TestStillWhoeverAsks(t *testing.T) {
	all := deeds()
	names := []string{"anew"}
	for name := range all {
		names = append(names, name)
	}
	slices.Sort(names)
	c := config(t, 1, 1, "workflow w\na activity q tries 2")
	begin := append(anew(1), ask("/start", "flow", "f", "def", "w"), ask("/start", "flow", "g", "def", "w"))
	many := map[bool]int{}
	for _, row := range rows(4, len(names)) {
		m := newModel(c)
		var whole []api.Entry
		whole = append(whole, begin...)
		told := make([]string, 0, len(row))
		for i, k := range row {
			does := all[names[k]]
			if names[k] == "anew" {
				does = anew(3 + 2*i)
			}
			whole, told = append(whole, does...), append(told, names[k])
		}
		for _, e := range whole {
			m.do(e)
		}
		want := m.still()
		many[want]++
		for _, way := range []string{"by itself", "by entries", "now so, now so"} {
			x, _ := engine.New(c)
			for i, e := range whole {
				if way == "by itself" || way == "now so, now so" && i%2 == 0 {
					itself(x, e)
				} else {
					x.Do(e)
				}
			}
			if got := x.Still(); got != want {
				t.Fatal(strings.Join(told, ", "), way, "is", got, "not", want)
			}
		}
	}
	if many[true] < 100 || many[false] < 100 {
		t.Fatal(fmt.Sprint(many))
	}
}

// P15.4: what is loaded and finished stands at the cursor, wherever nobody but the host itself has seen it pending.
func TestStillOfWhatIsLoadedAndFinishedByItself(t *testing.T) {
	x := ready(t, 1, 2, "workflow w\na activity q tries 2\nb activity p")
	h := x.Host(0)
	load := func(n int) {
		t.Helper()
		if _, e := h.Pick(api.PickLoad, 0, n, x.Now()); e != api.OK {
			t.Fatal(e)
		}
	}
	poll := func(queue string, status int, want string) {
		t.Helper()
		if got, body := h.Request("POST", "/poll", object("queue", queue), x.Now()); got != status || body != want {
			t.Fatal(got, body)
		}
	}
	starts(t, x, "f", "w")
	load(0)
	poll("q", 200, `{"flow":"f","node":"a","try":1}`)
	stillIs(t, x, false, "the second is behind the cursor")
	load(0)
	poll("p", 200, `{"flow":"f","node":"b","try":1}`)
	stillIs(t, x, true, "both are finished, and in the store")
	h.Pick(api.PickAck, 0, 0, x.Now())
	stillIs(t, x, true, "both are gone")
	asks(t, x, 0, "/fail", object("flow", "f", "node", "a", "try", 1), 200, events(6))
	stillIs(t, x, false, "the next try is behind the cursor")
	load(15)
	poll("q", 200, `{"flow":"f","node":"a","try":2}`)
	stillIs(t, x, true, "it is finished")

	// A new hold's cursor is at the level: there the same dispatch, that nobody may do any more, is to be loaded again.
	does(t, x, api.Entry{Kind: api.EvCrash}, api.OK)
	view(t, x, 2, 1)
	does(t, x, api.Entry{Kind: api.EvPick, Host: 1, What: api.PickOwn}, api.OK)
	h = x.Host(1)
	stillIs(t, x, false, "it is behind the new cursor")
	poll("q", 404, refused("none"))
	stillIs(t, x, false, "it is behind the new cursor still")
	load(0)
	poll("q", 404, refused("none"))
	if len(h.Pending(0)) != 0 || len(x.Exec(0).Dispatches()) != 1 {
		t.Fatal(h.Pending(0), x.Exec(0).Dispatches())
	}
	stillIs(t, x, true, "it was loaded, and finished as a stale one")
}
