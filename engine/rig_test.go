package engine_test

import (
	"fmt"
	"reflect"
	"strings"
	"testing"

	"tiller/api"
	"tiller/codec"
	"tiller/dag"
	"tiller/engine"
	"tiller/exec"
	"tiller/host"
	"tiller/kv"
	"tiller/lease"
	"tiller/ring"
	"tiller/world"
)

// wText is the definition w of chapter 9.
const wText = "workflow w\na activity q tries 2\nb wait s after a"

// oneText is an activity, and nothing else.
const oneText = "workflow one\na activity q"

// config is one with these definitions.
func config(t testing.TB, shards, hosts int, texts ...string) api.Config {
	t.Helper()
	c := api.Config{Shards: shards, Hosts: hosts, Points: 8}
	for _, text := range texts {
		d, _, e := dag.Parse(text)
		if e != api.OK {
			t.Fatal(text, e)
		}
		c.Defs = append(c.Defs, d)
	}
	return c
}

// made is a new cluster.
func made(t testing.TB, shards, hosts int, texts ...string) *engine.Cluster {
	t.Helper()
	x, e := engine.New(config(t, shards, hosts, texts...))
	if x == nil || e != api.OK {
		t.Fatal(e)
	}
	return x
}

// ready is a new cluster whose host 0 knows itself alone, and holds all shards.
func ready(t testing.TB, shards, hosts int, texts ...string) *engine.Cluster {
	t.Helper()
	x := made(t, shards, hosts, texts...)
	view(t, x, 1, 0)
	for n := range shards {
		pick(t, x, api.PickOwn, n, 0)
	}
	return x
}

// does does an entry that has no bytes, and must get that refusal.
func does(t testing.TB, x *engine.Cluster, e api.Entry, want api.Errno) {
	t.Helper()
	if b, why := x.Do(e); why != want || len(b) != 0 {
		t.Fatalf("%+v: %q, %d, want %d", e, b, why, want)
	}
}

// pick lets host 0 pick, and must get OK.
func pick(t testing.TB, x *engine.Cluster, what, shard, n int) {
	t.Helper()
	does(t, x, api.Entry{Kind: api.EvPick, What: what, Shard: shard, N: n}, api.OK)
}

// view tells all hosts that are up a view.
func view(t testing.TB, x *engine.Cluster, version int, hosts ...int) {
	t.Helper()
	for i := range api.MaxHosts {
		if x.Host(i) != nil {
			does(t, x, api.Entry{Kind: api.EvView, Host: i, View: api.View{Version: version, Hosts: hosts}}, api.OK)
		}
	}
}

// bytesOf are a request's.
func bytesOf(path, body string) []byte {
	method := "POST"
	if strings.HasPrefix(path, "/query") {
		method = "GET"
	}
	return fmt.Appendf(nil, "%s %s HTTP/1.1\r\nContent-Length: %d\r\n\r\n%s", method, path, len(body), body)
}

// asked is what a host replies: the status and the body.
func asked(t testing.TB, x *engine.Cluster, host int, path, body string) (int, string) {
	t.Helper()
	b, e := x.Do(api.Entry{Kind: api.EvRequest, Host: host, Bytes: bytesOf(path, body)})
	if e != api.OK {
		t.Fatal(path, body, e)
	}
	return reply(t, b)
}

// reply takes a reply apart.
func reply(t testing.TB, raw []byte) (int, string) {
	t.Helper()
	head, body, whole := strings.Cut(string(raw), "\r\n\r\n")
	status := 0
	if _, err := fmt.Sscanf(head, "HTTP/1.1 %d ", &status); !whole || err != nil || !strings.HasSuffix(head, fmt.Sprint("\r\nContent-Length: ", len(body))) {
		t.Fatalf("%q", raw)
	}
	return status, body
}

// asks asks a host, and must get that reply.
func asks(t testing.TB, x *engine.Cluster, host int, path, body string, status int, want string) {
	t.Helper()
	if got, answer := asked(t, x, host, path, body); got != status || answer != want {
		t.Fatalf("%s %s: %d %s, want %d %s", path, body, got, answer, status, want)
	}
}

// starts starts a workflow by host 0.
func starts(t testing.TB, x *engine.Cluster, flow, def string) {
	t.Helper()
	if status, answer := asked(t, x, 0, "/start", object("flow", flow, "def", def)); status != 200 {
		t.Fatal(flow, def, status, answer)
	}
}

// works polls and completes all that a host gives out of a queue: how many.
func works(t testing.TB, x *engine.Cluster, host int, queue string) int {
	t.Helper()
	for n := 0; ; n++ {
		status, body := asked(t, x, host, "/poll", object("queue", queue))
		if status != 200 {
			return n
		}
		body = strings.TrimSuffix(body, "}") + `,"text":"did"}`
		if status, answer := asked(t, x, host, "/complete", body); status != 200 {
			t.Fatal(body, status, answer)
		}
	}
}

// rounds does some.
func rounds(x *engine.Cluster, n int) {
	for range n {
		x.Round()
	}
}

// object is a body: names and values, texts and numbers.
func object(parts ...any) string {
	var l []string
	for i := 0; i < len(parts); i += 2 {
		switch v := parts[i+1].(type) {
		case int:
			l = append(l, fmt.Sprintf(`"%s":%d`, parts[i], v))
		default:
			l = append(l, fmt.Sprintf(`"%s":"%s"`, parts[i], v))
		}
	}
	return "{" + strings.Join(l, ",") + "}"
}

// events is the body that says how many there are.
func events(n int) string { return fmt.Sprintf(`{"events":%d}`, n) }

// owner is the body that says who may.
func owner(h int) string { return fmt.Sprintf(`{"error":"owner","host":%d}`, h) }

// refused is the body of a refusal.
func refused(word string) string { return `{"error":"` + word + `"}` }

// flowOf is the k-th workflow of a shard of so many.
func flowOf(n, shards, k int) string {
	for i := 0; ; i++ {
		if s := fmt.Sprint("f", i); ring.Shard(s, shards) == n {
			if k == 0 {
				return s
			}
			k--
		}
	}
}

// state is a workflow's state.
func state(t testing.TB, x *engine.Cluster, flow string) api.State {
	t.Helper()
	s, there := x.State(flow)
	if !there {
		t.Fatal("there is no", flow)
	}
	return s
}

// storeTold is all that a store tells.
func storeTold(s *kv.Store) string {
	var b strings.Builder
	fmt.Fprintln(&b, s.Fence(), s.Commits(), s.Len(), s.Size())
	for key, value := range s.Scan("", "") {
		fmt.Fprintf(&b, "%q=%q\n", key, value)
	}
	return b.String()
}

// shardTold is all that a shard's workflows tell.
func shardTold(x *exec.Exec, shards int) string {
	var b strings.Builder
	for flow, s := range x.All() {
		fmt.Fprintln(&b, flow, s, x.Events(flow))
	}
	fmt.Fprintln(&b, x.Dispatches(), x.Alarms(), x.Level())
	for n := range shards {
		fmt.Fprintln(&b, n, x.Outbox(n), x.Last(n), x.Mark(n))
	}
	return b.String()
}

// leasesTold is all that a table tells.
func leasesTold(t *lease.Table) string {
	var b strings.Builder
	for n, l := range t.All() {
		fmt.Fprint(&b, n, l, " ")
	}
	return b.String() + fmt.Sprintln(t.Swaps())
}

// hostTold is all that a host tells of itself.
func hostTold(h *host.Host, shards int) string {
	if h == nil {
		return "down\n"
	}
	v := h.View()
	var b strings.Builder
	fmt.Fprintln(&b, v.Version, v.Hosts, h.Owns())
	for n := range shards {
		to, some := h.For(n)
		r, held := h.Range(n)
		fmt.Fprintln(&b, n, to, some, r, held, h.Pending(n))
	}
	for n, c := range h.All() {
		fmt.Fprintln(&b, n, c.Shard(), c.Owner(), c.Range(), c.Made())
	}
	return b.String()
}

// diskTold is all that a disk tells, in short.
func diskTold(d *world.Disk) string {
	s := fmt.Sprint(d.Ops())
	for _, f := range d.Files() {
		s += fmt.Sprint(" ", f, ":", d.Kept(f), ",", codec.Sum(d.Read(f)))
	}
	return s
}

// told is all that a cluster tells, of its disks too.
func told(x *engine.Cluster) string {
	var b strings.Builder
	fmt.Fprintln(&b, x.Now(), leasesTold(x.Leases()), diskTold(x.Disk(-1)))
	shards := 0
	for ; x.Store(shards) != nil; shards++ {
		fmt.Fprintln(&b, shards, diskTold(x.Disk(shards)), storeTold(x.Store(shards)))
	}
	for i := range api.MaxHosts {
		fmt.Fprint(&b, i, x.Incarnation(i), hostTold(x.Host(i), shards))
	}
	for i, p := range x.Net().All() {
		fmt.Fprintln(&b, i, p)
	}
	return b.String()
}

// alike: nil and empty lists are one.
func alike(a, b any) bool {
	return fmt.Sprint(a) == fmt.Sprint(b) || reflect.DeepEqual(a, b)
}
