package host_test

import (
	"fmt"
	"math"
	"slices"
	"strings"
	"testing"

	"tiller/api"
	"tiller/dag"
	"tiller/host"
	"tiller/kv"
	"tiller/lease"
	"tiller/ring"
	"tiller/shard"
	"tiller/world"
)

// P14.1

// with is a configuration that was changed.
func with(c api.Config, change func(c *api.Config)) api.Config {
	change(&c)
	return c
}

// wrongDefs are definitions, each with what dag.Check refuses of it.
func wrongDefs(t testing.TB) map[api.Errno]api.Def {
	t.Helper()
	a := api.Node{Name: "a", Kind: api.Wait, Arg: "s"}
	after := func(n api.Node, name, after string) api.Node {
		n.Name, n.After = name, []string{after}
		return n
	}
	l := map[api.Errno]api.Def{
		api.ErrName:  {Name: "a b", Nodes: []api.Node{a}},
		api.ErrMany:  {Name: "x"},
		api.ErrTwice: {Name: "x", Nodes: []api.Node{a, a}},
		api.ErrArg:   {Name: "x", Nodes: []api.Node{{Name: "a", Kind: 9, Arg: "s"}}},
		api.ErrNone:  {Name: "x", Nodes: []api.Node{after(a, "a", "b")}},
		api.ErrLoop:  {Name: "x", Nodes: []api.Node{after(a, "a", "b"), after(a, "b", "a")}},
	}
	for want, d := range l {
		if _, e := dag.Check(d); e != want {
			t.Fatal(d, e)
		}
	}
	return l
}

// configs are configurations, each with what Check must answer.
func configs(t testing.TB) []struct {
	c    api.Config
	want api.Errno
} {
	type row = struct {
		c    api.Config
		want api.Errno
	}
	right := api.Config{Shards: 2, Hosts: 2, Points: 8, Defs: defs(t, wText)}
	rows := []row{{right, api.OK}, {with(right, func(c *api.Config) { c.Defs = nil }), api.OK}, {with(right, func(c *api.Config) { c.Defs = []api.Def{} }), api.OK}, {api.Config{}, api.ErrArg}}
	for n, want := range map[int]api.Errno{math.MinInt: api.ErrArg, -1: api.ErrArg, 0: api.ErrArg, 1: api.OK, 2: api.OK, 16: api.OK, 17: api.ErrArg, math.MaxInt: api.ErrArg} {
		rows = append(rows, row{with(right, func(c *api.Config) { c.Shards = n }), want}, row{with(right, func(c *api.Config) { c.Hosts = n }), want})
	}
	for n, want := range map[int]api.Errno{math.MinInt: api.ErrArg, -1: api.ErrArg, 0: api.ErrArg, 1: api.OK, 17: api.OK, 64: api.OK, 65: api.ErrArg, math.MaxInt: api.ErrArg} {
		rows = append(rows, row{with(right, func(c *api.Config) { c.Points = n }), want})
	}
	all := defs(t, several()...)
	twice := []api.Def{all[0], all[1], all[0]}
	rows = append(rows, row{with(right, func(c *api.Config) { c.Defs = all }), api.OK}, row{with(right, func(c *api.Config) { c.Defs = twice }), api.ErrTwice})
	for want, d := range wrongDefs(t) {
		for _, list := range [][]api.Def{{d}, {all[0], d}, {d, all[0], all[0]}, {all[0], all[0], d}, {all[1], d, {}}} { // the first that is refused counts, and each ahead of two with one name
			rows = append(rows, row{with(right, func(c *api.Config) { c.Defs = list }), want})
			rows = append(rows, row{with(right, func(c *api.Config) { c.Defs, c.Points = list, 65 }), api.ErrArg}) // numbers count ahead of definitions
			rows = append(rows, row{with(right, func(c *api.Config) { c.Defs, c.Hosts = list, 0 }), api.ErrArg})
		}
		rows = append(rows, row{with(right, func(c *api.Config) { c.Defs = []api.Def{{}, d} }), api.ErrName})
	}
	return rows
}

func TestCheck(t *testing.T) {
	for _, x := range configs(t) {
		if e := host.Check(x.c); e != x.want {
			t.Errorf("%+v: %d, want %d", x.c, e, x.want)
		}
	}
}

// storesOf are so many stores of which one (none below 0) is nil.
func storesOf(many, missing int) []*kv.Store {
	var l []*kv.Store
	for n := range many {
		s, _ := kv.Open(world.NewDisk(), 0)
		if n == missing {
			s = nil
		}
		l = append(l, s)
	}
	return l
}

func TestNewOfAnyConfiguration(t *testing.T) {
	table, _ := lease.Open(world.NewDisk())
	for _, x := range configs(t) {
		h, e := host.New(x.c, 0, 1, table, storesOf(min(max(x.c.Shards, 0), 20), -1))
		if e != x.want || (h == nil) != (e != api.OK) {
			t.Errorf("%+v: %d, want %d", x.c, e, x.want)
		}
		if x.want == api.OK {
			continue
		}
		if h, e := host.New(x.c, -1, -1, nil, nil); h != nil || e != x.want { // what Check refuses comes first
			t.Errorf("%+v: %d, want %d", x.c, e, x.want)
		}
	}
}

func TestNew(t *testing.T) {
	table, _ := lease.Open(world.NewDisk())
	const most = api.MaxNumber / 2
	for i, x := range []struct {
		number, incarnation int
		t                   *lease.Table
		stores              []*kv.Store
		want                api.Errno
	}{
		{0, 1, table, storesOf(3, -1), api.OK}, {1, 1, table, storesOf(3, -1), api.OK}, {0, 0, table, storesOf(3, -1), api.OK}, {0, most, table, storesOf(3, -1), api.OK},
		{-1, 1, table, storesOf(3, -1), api.ErrArg}, {2, 1, table, storesOf(3, -1), api.ErrArg}, {math.MinInt, 1, table, storesOf(3, -1), api.ErrArg}, {math.MaxInt, 1, table, storesOf(3, -1), api.ErrArg},
		{0, -1, table, storesOf(3, -1), api.ErrArg}, {0, most + 1, table, storesOf(3, -1), api.ErrArg}, {0, math.MinInt, table, storesOf(3, -1), api.ErrArg}, {0, math.MaxInt, table, storesOf(3, -1), api.ErrArg},
		{0, 1, nil, storesOf(3, -1), api.ErrArg}, {0, 1, table, nil, api.ErrArg}, {0, 1, table, storesOf(2, -1), api.ErrArg}, {0, 1, table, storesOf(4, -1), api.ErrArg},
		{0, 1, table, storesOf(3, 0), api.ErrArg}, {0, 1, table, storesOf(3, 1), api.ErrArg}, {0, 1, table, storesOf(3, 2), api.ErrArg}, {0, 1, table, storesOf(4, 3), api.ErrArg},
	} {
		h, e := host.New(api.Config{Shards: 3, Hosts: 2, Points: 8}, x.number, x.incarnation, x.t, x.stores)
		if e != x.want || (h == nil) != (e != api.OK) {
			t.Fatal(i, e)
		}
		if h == nil {
			continue
		}
		if v := h.View(); v.Version != 0 || len(v.Hosts) != 0 || len(h.Owns()) != 0 {
			t.Fatal(v, h.Owns())
		}
		h.Learn(api.View{Version: 1, Hosts: []int{x.number}})
		picks(t, h, api.PickOwn, 2, 0, now, api.OK)
		if l, _ := table.Get(2); l.Owner != x.incarnation {
			t.Fatal(l)
		}
	}
}

// P14.2

func TestLearn(t *testing.T) {
	w := lay(t, 2, 3)
	h := w.host(0)
	view := func(version int, hosts ...int) api.View { return api.View{Version: version, Hosts: hosts} }
	for i, x := range []struct {
		v    api.View
		want bool
	}{
		{view(0), false}, {view(0, 0), false}, {view(-1, 0), false}, {view(math.MinInt), false},
		{view(1, 0, 0), false}, {view(1, 1, 0), false}, {view(1, -1), false}, {view(1, 3), false}, {view(1, 0, 1, 2, 3), false}, {view(1, 16), false}, {view(1, 0, 15), false}, {view(1, math.MaxInt), false},
		{view(1, 0, 1, 2), true}, {view(1, 0), false}, {view(0), false}, {view(1, 0, 1, 2), false},
		{view(2), true}, {view(1, 0), false}, {view(2, 0), false}, {view(9, 2), true}, {view(8, 1), false}, {view(10, 0, 2), true},
		{view(api.MaxNumber+1, 0), false}, {view(math.MaxInt), false}, {view(api.MaxNumber, 1), true}, {view(api.MaxNumber, 0), false},
	} {
		was := h.View()
		if h.Learn(x.v) != x.want {
			t.Fatal(i, x)
		}
		if x.want {
			was = x.v
		}
		if v := h.View(); !same(v, was) {
			t.Fatal(i, v)
		}
	}
}

// For is the ring's: of the view's hosts, with the configuration's points.
func TestFor(t *testing.T) {
	for points := 1; points <= 64; points += 9 {
		w := lay(t, 16, 16)
		w.c.Points = points
		h := w.host(3)
		for n := range 16 {
			if to, some := h.For(n); to != 0 || some {
				t.Fatal(to, some)
			}
		}
		for version, hosts := range [][]int{{}, {3}, {0, 3, 7, 15}, {1, 2}, {}, {0, 1, 2, 3, 4, 5, 6, 7, 8, 9, 10, 11, 12, 13, 14, 15}} {
			h.Learn(api.View{Version: version + 1, Hosts: hosts})
			r, _ := ring.New(hosts, points)
			for _, n := range []int{0, 1, 2, 3, 4, 5, 6, 7, 8, 9, 10, 11, 12, 13, 14, 15, -1, 16, -1000, 9999} { // the ring takes any number
				to, some := h.For(n)
				want, is := r.Host(n)
				if to != want || some != is || some != (len(hosts) > 0) {
					t.Fatal(points, hosts, n, to, some)
				}
			}
		}
	}
}

// Owns, Range, Pending and All tell the open holds alone, rising.
func TestHolds(t *testing.T) {
	w := lay(t, 5, 1, wText)
	h := w.host(0)
	h.Learn(api.View{Version: 1, Hosts: []int{0}})
	tells := func(want ...int) {
		t.Helper()
		var all []int
		for n, c := range h.All() {
			all = append(all, n)
			if r, held := h.Range(n); !held || c.Range() != r || c.Shard() != n || c.Owner() != 1 || !c.Open() {
				t.Fatal(n, r, held, c.Range(), c.Shard(), c.Owner(), c.Open())
			}
		}
		if !same(h.Owns(), want) || !same(all, want) {
			t.Fatal(h.Owns(), all, want)
		}
		for n := -2; n < 8; n++ {
			if r, held := h.Range(n); held != slices.Contains(want, n) || !held && r != 0 {
				t.Fatal(n, r, held)
			}
			if !slices.Contains(want, n) && len(h.Pending(n)) != 0 {
				t.Fatal(n, h.Pending(n))
			}
		}
	}
	tells()
	for _, n := range []int{3, 0, 4} {
		picks(t, h, api.PickOwn, n, 0, now, api.OK)
	}
	tells(0, 3, 4)
	var flows []string
	for n := range 5 {
		flows = append(flows, flowOf(n, 5, 0))
	}
	starts(t, h, flows[3], "w")
	starts(t, h, flows[4], "w")
	if len(h.Pending(3)) != 0 {
		t.Fatal("nothing was loaded")
	}
	picks(t, h, api.PickLoad, 3, 0, now, api.OK)
	picks(t, h, api.PickLoad, 4, 0, now, api.OK)
	if l := h.Pending(3); len(l) != 1 || l[0].Flow != flows[3] || l[0].Node != "a" || l[0].ID != 1+1i {
		t.Fatal(l)
	}
	if c, e := shard.Acquire(w.table, w.stores[4], 4, 9); e != api.OK || c.Range() != 2 {
		t.Fatal(e)
	}
	tells(0, 3, 4) // it doesn't know yet
	asks(t, h, "/cancel", object("flow", flows[4]), 307, owner(0))
	tells(0, 3)
	for _, c := range h.All() { // whoever has a Ctx can close it
		c.Release()
	}
	tells()
	picks(t, h, api.PickOwn, 3, 0, now, api.OK)
	if r, _ := h.Range(3); r != 2 || len(h.Pending(3)) != 0 {
		t.Fatal("a new hold has nothing of the earlier one", r, h.Pending(3))
	}
	tells(3)
}

// All may be stopped anywhere, and ranged over twice: each time it tells what there is.
func TestAll(t *testing.T) {
	w := lay(t, 4, 1)
	h := w.alone(0)
	all := h.All()
	for range 2 {
		for most := 1; most <= 5; most++ {
			var told []int
			for n := range all {
				told = append(told, n)
				if len(told) == most {
					break
				}
			}
			if !same(told, []int{0, 1, 2, 3}[:min(most, 4)]) {
				t.Fatal(most, told)
			}
		}
	}
	h.Forget(1, nil)
	var told []int
	for n := range all {
		told = append(told, n)
	}
	if !same(told, []int{0, 2, 3}) {
		t.Fatal(told)
	}
}

func TestForget(t *testing.T) {
	w := lay(t, 2, 1, wText)
	h := w.alone(0)
	flow := flowOf(1, 2, 0)
	starts(t, h, flow, "w")
	picks(t, h, api.PickLoad, 1, 0, now, api.OK)
	was := w.told()
	store, _ := kv.Open(world.NewDisk(), 0)
	for _, n := range []int{-1, 2, 16, math.MinInt, math.MaxInt} {
		for _, s := range []*kv.Store{nil, store} {
			if h.Forget(n, s) || !same(h.Owns(), []int{0, 1}) {
				t.Fatal(n)
			}
		}
	}
	for range 2 { // also where there is no hold
		if !h.Forget(1, nil) || !same(h.Owns(), []int{0}) || len(h.Pending(1)) != 0 {
			t.Fatal(h.Owns(), h.Pending(1))
		}
	}
	if w.told() != was { // without a word to anybody: the lease is its own still
		t.Fatal(w.told())
	}
	asks(t, h, "/query?flow="+flow, "", 307, owner(0))
	picks(t, h, api.PickOwn, 1, 0, now, api.OK)
	if r, _ := h.Range(1); r != 2 || w.state(flow).Status != api.Running {
		t.Fatal(r)
	}
	asks(t, h, "/signal", object("flow", flow, "name", "s"), 200, events(3)) // the store is the same
	if !h.Forget(1, store) || !same(h.Owns(), []int{0}) {
		t.Fatal("forget")
	}
	picks(t, h, api.PickOwn, 1, 0, now, api.OK)
	asks(t, h, "/query?flow="+flow, "", 404, refused("none")) // it is another one
	starts(t, h, flow, "w")
	if store.Fence() != 3 || w.stores[1].Fence() != 2 || store.Len() == 0 {
		t.Fatal(store.Fence(), w.stores[1].Fence())
	}
}

func TestForgetAll(t *testing.T) {
	w := lay(t, 3, 1)
	h := w.alone(0)
	was := w.told()
	for range 2 {
		h.ForgetAll(nil)
		if len(h.Owns()) != 0 || w.told() != was {
			t.Fatal(h.Owns())
		}
	}
	picks(t, h, api.PickOwn, 0, 0, now, api.OK)
	picks(t, h, api.PickOwn, 2, 0, now, api.OK)
	if r, _ := h.Range(2); r != 2 || !same(h.Owns(), []int{0, 2}) {
		t.Fatal(r, h.Owns())
	}
	table, _ := lease.Open(world.NewDisk())
	for n := range 7 { // ahead of the other table, as a store's fence never falls
		l, _ := table.Get(0)
		if _, e := table.Swap(0, l, n); e != api.OK {
			t.Fatal(e)
		}
	}
	h.ForgetAll(table)
	if len(h.Owns()) != 0 {
		t.Fatal(h.Owns())
	}
	picks(t, h, api.PickOwn, 0, 0, now, api.OK)
	if r, _ := h.Range(0); r != 8 || !table.Holds(0, api.Lease{Owner: 1, Range: 8}) || !w.table.Holds(0, api.Lease{Owner: 1, Range: 2}) {
		t.Fatal(r)
	}
}

// R2: what is handed in is neither changed nor kept; what is answered is new.
func TestMemory(t *testing.T) {
	w := lay(t, 2, 3, several()...)
	was := fmt.Sprint(w.c)
	stores := slices.Clone(w.stores)
	h, _ := host.New(w.c, 0, 1, w.table, stores)
	stores[0], stores[1] = nil, nil
	for i, d := range w.c.Defs {
		for j := range d.Nodes {
			for k := range d.Nodes[j].After {
				d.Nodes[j].After[k] = "spoilt"
			}
			d.Nodes[j] = api.Node{Name: "spoilt"}
		}
		w.c.Defs[i] = api.Def{Name: fmt.Sprint("spoilt", i)}
	}
	v := api.View{Version: 1, Hosts: append(make([]int, 0, 9), 0, 1)}
	h.Learn(v)
	if room := v.Hosts[:9]; !same(room, []int{0, 1, 0, 0, 0, 0, 0, 0, 0}) {
		t.Fatal(room)
	}
	v.Hosts[0] = 2
	got := h.View()
	if !same(got, api.View{Version: 1, Hosts: []int{0, 1}}) {
		t.Fatal(got)
	}
	got.Hosts[0] = 2
	clear(got.Hosts[:cap(got.Hosts)])
	if to, _ := h.For(0); !same(h.View().Hosts, []int{0, 1}) || to > 1 {
		t.Fatal(h.View())
	}
	h.Learn(api.View{Version: 2, Hosts: []int{0}})
	for n := range 2 {
		picks(t, h, api.PickOwn, n, 0, now, api.OK)
	}
	l := h.Owns()
	clear(l[:cap(l)])
	l = append(l[:0], 7)
	if !same(h.Owns(), []int{0, 1}) {
		t.Fatal(h.Owns())
	}
	flow := flowOf(1, 2, 0)
	starts(t, h, flow, "w")
	picks(t, h, api.PickLoad, 1, 0, now, api.OK)
	tasks := h.Pending(1)
	clear(tasks[:cap(tasks)])
	asks(t, h, "/poll", object("queue", "q"), 200, given(flow, "a", 1))
	asks(t, h, "/complete", object("flow", flow, "node", "a", "try", 1), 200, events(5))
	asks(t, h, "/query?flow="+flow, "", 200, `{"flow":"`+flow+`","def":"w","status":"running","text":"","events":5,"over":1,"left":1,"nodes":[{"name":"a","status":"over","try":1,"text":""},{"name":"b","status":"busy","try":0,"text":""}]}`)
	again := api.Config{Shards: 2, Hosts: 3, Points: 8, Defs: defs(t, several()...)}
	if fmt.Sprint(again) != was || host.Check(again) != api.OK || fmt.Sprint(again) != was {
		t.Fatal("Check changes what it is given")
	}
	if _, e := host.New(again, 0, 2, w.table, w.stores); e != api.OK || fmt.Sprint(again) != was || slices.Contains(w.stores, nil) {
		t.Fatal("New changes what it is given")
	}
}

// R2: definitions with spare room stay as they are, the room too, whatever is done with them.
func TestSpareRoom(t *testing.T) {
	w := lay(t, 1, 1, several()...)
	for i := range w.c.Defs {
		nodes := append(make([]api.Node, 0, 40), w.c.Defs[i].Nodes...)
		for j := range nodes {
			nodes[j].After = append(make([]string, 0, 8), nodes[j].After...)
		}
		w.c.Defs[i].Nodes = nodes
	}
	w.c.Defs = append(make([]api.Def, 0, 20), w.c.Defs...)
	room := func() string {
		var b strings.Builder
		for _, d := range w.c.Defs[:20] {
			for _, n := range d.Nodes[:cap(d.Nodes)] {
				fmt.Fprint(&b, n, n.After[:cap(n.After)])
			}
			fmt.Fprint(&b, d)
		}
		return b.String()
	}
	was := room()
	h := w.alone(0)
	for i, name := range []string{"w", "t", "p", "s", "v"} {
		starts(t, h, fmt.Sprint("g", i), name)
	}
	picks(t, h, api.PickLoad, 0, 15, now, api.OK)
	for range 9 {
		h.Request("POST", "/poll", object("queue", "q"), now)
		h.Pick(api.PickFire, 0, 0, 99)
	}
	if room() != was {
		t.Fatal(room())
	}
}
