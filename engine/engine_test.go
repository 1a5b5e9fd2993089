package engine_test

import (
	"fmt"
	"slices"
	"strings"
	"testing"

	"tiller/api"
	"tiller/engine"
	"tiller/history"
	"tiller/host"
	"tiller/ring"
)

// P15.1: what host.Check refuses is refused, in its order.
func TestNewRefusesWhatCheckRefuses(t *testing.T) {
	good := config(t, 1, 1, wText)
	with := func(change func(c *api.Config)) api.Config {
		c := good
		change(&c)
		return c
	}
	bad := api.Def{Name: "w"}
	cases := []struct {
		c    api.Config
		want api.Errno
	}{
		{api.Config{}, api.ErrArg},
		{with(func(c *api.Config) { c.Shards = 0 }), api.ErrArg},
		{with(func(c *api.Config) { c.Shards = api.MaxShards + 1 }), api.ErrArg},
		{with(func(c *api.Config) { c.Hosts = 0 }), api.ErrArg},
		{with(func(c *api.Config) { c.Hosts = api.MaxHosts + 1 }), api.ErrArg},
		{with(func(c *api.Config) { c.Hosts = -1 }), api.ErrArg},
		{with(func(c *api.Config) { c.Points = 0 }), api.ErrArg},
		{with(func(c *api.Config) { c.Points = api.MaxPoints + 1 }), api.ErrArg},
		{with(func(c *api.Config) { c.Defs = []api.Def{bad} }), api.ErrMany},
		{with(func(c *api.Config) { c.Defs = []api.Def{{}} }), api.ErrName},
		{with(func(c *api.Config) { c.Defs = []api.Def{good.Defs[0], good.Defs[0]} }), api.ErrTwice},
		{with(func(c *api.Config) { c.Defs = []api.Def{good.Defs[0], good.Defs[0], bad} }), api.ErrMany},
		{with(func(c *api.Config) { c.Defs, c.Points = []api.Def{bad}, 65 }), api.ErrArg},
	}
	for _, k := range cases {
		if x, e := engine.New(k.c); x != nil || e != k.want || e != host.Check(k.c) {
			t.Errorf("%+v: %v, %d, want %d", k.c, x, e, k.want)
		}
	}
	for _, c := range []api.Config{good, {Shards: api.MaxShards, Hosts: api.MaxHosts, Points: api.MaxPoints}, {Shards: 1, Hosts: 1, Points: 1}} {
		if x, e := engine.New(c); x == nil || e != api.OK {
			t.Errorf("%+v: %d", c, e)
		}
	}
}

// P15, P15.1: a new cluster: all hosts are up under incarnations from 1 on, nothing is held, nothing is there.
func TestNewCluster(t *testing.T) {
	x := made(t, 3, 4, wText)
	for i := range 4 {
		if x.Incarnation(i) != i+1 || x.Host(i) == nil || len(x.Host(i).Owns()) != 0 || x.Host(i).View().Version != 0 || len(x.Host(i).View().Hosts) != 0 {
			t.Error(i, x.Incarnation(i), hostTold(x.Host(i), 3))
		}
	}
	for n, l := range x.Leases().All() {
		if l != (api.Lease{Owner: -1}) {
			t.Error(n, l)
		}
	}
	for n := range 3 {
		if s := x.Store(n); s.Fence() != 0 || s.Len() != 0 || len(x.Disk(n).Files()) != 0 || len(x.Exec(n).Flows()) != 0 {
			t.Error(n, storeTold(s))
		}
	}
	if x.Now() != 0 || x.Net().Len() != 0 || len(x.Flows()) != 0 || len(x.Disk(-1).Files()) != 0 {
		t.Error(told(x))
	}
	for range api.MaxNet {
		if !x.Net().Send(api.Parcel{}) {
			t.Fatal("it takes fewer than MaxNet")
		}
	}
	if x.Net().Send(api.Parcel{}) {
		t.Fatal("it takes more than MaxNet")
	}
}

// P15.3: of what there is, and of what there is not.
func TestWhatThereIs(t *testing.T) {
	x := made(t, 3, 2, wText)
	for _, n := range []int{-1 << 63, -2, -1, 3, 15, 16, 1<<63 - 1} {
		if x.Exec(n) != nil || x.Store(n) != nil || n != -1 && x.Disk(n) != nil {
			t.Error("there is a shard", n)
		}
	}
	for _, i := range []int{-1 << 63, -1, 2, 16, 1<<63 - 1} {
		if x.Host(i) != nil || x.Incarnation(i) != 0 {
			t.Error("there is a host", i)
		}
	}
	disks := map[any]bool{}
	for n := -1; n < 3; n++ {
		if x.Disk(n) == nil || x.Disk(n) != x.Disk(n) {
			t.Error("there is no disk", n)
		}
		disks[x.Disk(n)] = true
	}
	if len(disks) != 4 || x.Leases() == nil || x.Net() == nil {
		t.Error("shards share a disk")
	}
	does(t, x, api.Entry{Kind: api.EvCrash, Host: 1}, api.OK)
	if x.Host(1) != nil || x.Incarnation(1) != 0 || x.Host(0) == nil || x.Incarnation(0) != 1 {
		t.Error("a crash of 1")
	}
}

// P15.3: workflows are told as their shards' stores have them.
func TestWorkflowsAreTold(t *testing.T) {
	x := ready(t, 3, 1, wText)
	var flows []string
	for k := range 4 {
		for n := range 3 {
			flows = append(flows, flowOf(n, 3, 3-k))
		}
	}
	for _, f := range flows {
		starts(t, x, f, "w")
	}
	asks(t, x, 0, "/signal", object("flow", flows[5], "name", "s", "text", "hi"), 200, events(3))
	slices.Sort(flows)
	if !slices.Equal(x.Flows(), flows) {
		t.Fatal(x.Flows(), flows)
	}
	for _, f := range flows {
		home := x.Exec(ring.Shard(f, 3))
		want, there := home.Load(f)
		got, ok := x.State(f)
		if !there || !ok || !alike(got, want) || !alike(x.Events(f), home.Events(f)) || len(x.Events(f)) != got.Events || got.ID != f {
			t.Error(f, got, want)
		}
	}
	for _, f := range []string{"", "none", "no flow", strings.Repeat("x", 999), "\xff"} {
		if s, there := x.State(f); there || !alike(s, api.State{}) || len(x.Events(f)) != 0 {
			t.Error(f, s)
		}
	}
	for n := range 3 { // one store: what is done by the one is told by the other
		if x.Exec(n) == nil || x.Store(n).Len() == 0 || len(x.Exec(n).Flows()) != 4 {
			t.Error(n)
		}
	}
}

// R2: what is handed to New is neither changed nor kept, and what is answered is new memory.
func TestConfigIsNotKept(t *testing.T) {
	c := config(t, 1, 1, wText, oneText)
	spare := append(c.Defs, api.Def{Name: "spare"})
	c.Defs = spare[:2]
	was := fmt.Sprint(c)
	x, _ := engine.New(c)
	view(t, x, 1, 0)
	x.Round()
	if fmt.Sprint(c) != was || spare[2].Name != "spare" {
		t.Fatal(c)
	}
	for _, d := range c.Defs {
		for i := range d.Nodes {
			d.Nodes[i].Arg, d.Nodes[i].Kind = "none", api.Wait
			for k := range d.Nodes[i].After {
				d.Nodes[i].After[k] = "none"
			}
		}
	}
	c.Defs[0].Name, c.Defs[1] = "gone", api.Def{}
	for _, again := range []bool{false, true} { // also for a host that is made later
		if again {
			does(t, x, api.Entry{Kind: api.EvCrash}, api.OK)
			does(t, x, api.Entry{Kind: api.EvStart}, api.OK)
			view(t, x, 1, 0)
			x.Round()
		}
		f := fmt.Sprint("f", again)
		starts(t, x, f, "w")
		starts(t, x, f+"1", "one")
		pick(t, x, api.PickLoad, 0, 9)
		works(t, x, 0, "q")
		if s := state(t, x, f); s.Nodes[0].Status != api.Over || s.Nodes[1].Status != api.Busy {
			t.Fatal(s)
		}
	}
	starts(t, x, "last", "w")
	pick(t, x, api.PickLoad, 0, 9)
	if pick(t, x, api.PickAck, 0, 0); !x.Still() { // Still knows the definitions, too
		t.Fatal("what is to be done is taken for stale")
	}
	flows, l, s := x.Flows(), x.Events("last"), state(t, x, "last")
	flows[0], l[0].Kind, s.Nodes[0].Status = "changed", 9, 9
	_, _, _ = append(flows[:1], "x"), append(l[:1], api.Event{}), append(s.Nodes[:1], api.NodeState{})
	if slices.Contains(x.Flows(), "changed") || x.Events("last")[0].Kind != api.Started || state(t, x, "last").Nodes[0].Status != api.Ready {
		t.Fatal("an answer is not new memory")
	}
}

// R4: two clusters beside each other know nothing of each other, and what is done to both they answer alike.
func TestTwoClusters(t *testing.T) {
	c := config(t, 2, 2, wText, "workflow p\na child w\nb timer 3")
	a, _ := engine.New(c)
	b, _ := engine.New(c)
	empty := told(b)
	view(t, a, 1, 0, 1)
	rounds(a, 2)
	view(t, a, 2, 0)
	rounds(a, 2)
	starts(t, a, "f", "p")
	does(t, a, api.Entry{Kind: api.EvTick, N: 5}, api.OK)
	does(t, a, api.Entry{Kind: api.EvStop, Shard: -1}, api.OK)
	does(t, a, api.Entry{Kind: api.EvCrash, Host: 1}, api.OK)
	rounds(a, 3)
	if told(b) != empty {
		t.Fatal(told(b))
	}
	view(t, b, 1, 0, 1)
	rounds(b, 2)
	view(t, b, 2, 0)
	rounds(b, 2)
	starts(t, b, "f", "p")
	does(t, b, api.Entry{Kind: api.EvTick, N: 5}, api.OK)
	does(t, b, api.Entry{Kind: api.EvStop, Shard: -1}, api.OK)
	does(t, b, api.Entry{Kind: api.EvCrash, Host: 1}, api.OK)
	rounds(b, 3)
	if told(a) != told(b) {
		t.Fatal(told(a), told(b))
	}
}

// W6: states are the folds of their events, and replaying them gives each state.
func folds(t testing.TB, x *engine.Cluster, c api.Config) {
	t.Helper()
	for _, f := range x.Flows() {
		s := state(t, x, f)
		i := slices.IndexFunc(c.Defs, func(d api.Def) bool { return d.Name == s.Def })
		if i < 0 {
			t.Fatal(f, s)
		}
		l := x.Events(f)
		folded, e := history.Fold(c.Defs[i], f, l)
		if e != api.OK || !alike(folded, s) || len(l) != s.Events {
			t.Fatal(f, s, folded, l)
		}
		for k, at := range history.States(c.Defs[i], f, l) {
			if k == len(l)-1 && !alike(at, s) {
				t.Fatal(f, s, at)
			}
		}
	}
}
