package host_test

import (
	"fmt"
	"reflect"
	"strings"
	"testing"

	"tiller/api"
	"tiller/dag"
	"tiller/exec"
	"tiller/host"
	"tiller/kv"
	"tiller/lease"
	"tiller/ring"
	"tiller/world"
)

// now is when things are done, if the time is nothing to the test.
const now = 10

// wText is the definition w of chapter 9.
const wText = "workflow w\na activity q tries 2\nb wait s after a"

// town is what hosts stand on: a lease table and stores, each on its disk.
type town struct {
	t      testing.TB
	c      api.Config
	leases *world.Disk
	disks  []*world.Disk
	table  *lease.Table
	stores []*kv.Store
	given  int // incarnations
}

// defs reads definitions.
func defs(t testing.TB, texts ...string) []api.Def {
	t.Helper()
	var l []api.Def
	for _, text := range texts {
		d, _, e := dag.Parse(text)
		if e != api.OK {
			t.Fatal(text, e)
		}
		l = append(l, d)
	}
	return l
}

// lay is a new town.
func lay(t testing.TB, shards, hosts int, texts ...string) *town {
	t.Helper()
	w := &town{t: t, c: api.Config{Shards: shards, Hosts: hosts, Points: 8, Defs: defs(t, texts...)}, leases: world.NewDisk()}
	w.table, _ = lease.Open(w.leases)
	for range shards {
		d := world.NewDisk()
		s, _ := kv.Open(d, 0)
		w.disks, w.stores = append(w.disks, d), append(w.stores, s)
	}
	return w
}

// host is a new one, under the next incarnation; without a view.
func (w *town) host(number int) *host.Host {
	w.t.Helper()
	w.given++
	h, e := host.New(w.c, number, w.given, w.table, w.stores)
	if h == nil || e != api.OK {
		w.t.Fatal(e)
	}
	return h
}

// alone is a new host that holds all shards of a town, its view being itself alone.
func (w *town) alone(number int) *host.Host {
	w.t.Helper()
	h := w.host(number)
	if !h.Learn(api.View{Version: 1, Hosts: []int{number}}) {
		w.t.Fatal("it does not learn")
	}
	for n := range w.c.Shards {
		picks(w.t, h, api.PickOwn, n, 0, now, api.OK)
	}
	return h
}

// exec is a shard's workflows.
func (w *town) exec(n int) *exec.Exec {
	x, _ := exec.New(w.stores[n], w.c.Shards, n)
	return x
}

// state is a workflow's state.
func (w *town) state(flow string) api.State {
	w.t.Helper()
	s, there := w.exec(ring.Shard(flow, w.c.Shards)).Load(flow)
	if !there {
		w.t.Fatal("there is no", flow)
	}
	return s
}

// told is all that lasts: leases, fences, pairs, and how many operations the disks have done.
func (w *town) told() string {
	var b strings.Builder
	for n, l := range w.table.All() {
		fmt.Fprint(&b, n, l)
	}
	fmt.Fprintln(&b, w.leases.Ops())
	for n, s := range w.stores {
		fmt.Fprintln(&b, n, s.Fence(), s.Commits(), w.disks[n].Ops())
		for key, value := range s.Scan("", "") {
			fmt.Fprintf(&b, "%q=%q\n", key, value)
		}
	}
	return b.String()
}

// toldOf is all that a host tells of itself.
func toldOf(h *host.Host, shards int) string {
	v := h.View()
	var b strings.Builder
	fmt.Fprintln(&b, v.Version, v.Hosts, h.Owns())
	for n := -1; n <= shards; n++ {
		to, some := h.For(n)
		r, held := h.Range(n)
		fmt.Fprintln(&b, n, to, some, r, held, h.Pending(n))
	}
	for n, c := range h.All() {
		fmt.Fprintln(&b, n, c.Shard(), c.Owner(), c.Range(), c.Open())
	}
	return b.String()
}

// picks picks, and must get that refusal, and no parcels.
func picks(t testing.TB, h *host.Host, what, n, k, at int, want api.Errno) {
	t.Helper()
	if l, e := h.Pick(what, n, k, at); e != want || len(l) != 0 {
		t.Fatalf("pick %d of %d, %d: %v, %d, want %d", what, n, k, l, e, want)
	}
}

// mails picks a mail, and must get it.
func mails(t testing.TB, h *host.Host, n, to int) api.Parcel {
	t.Helper()
	l, e := h.Pick(api.PickMail, n, to, now)
	if e != api.OK || len(l) != 1 {
		t.Fatal(l, e)
	}
	return l[0]
}

// asks asks by the path's method, and must get that answer.
func asks(t testing.TB, h *host.Host, path, body string, status int, want string) {
	t.Helper()
	method := "POST"
	if strings.HasPrefix(path, "/query") {
		method = "GET"
	}
	if got, answer := h.Request(method, path, body, now); got != status || answer != want {
		t.Fatalf("%s %s: %d %s, want %d %s", path, body, got, answer, status, want)
	}
}

// starts starts a workflow.
func starts(t testing.TB, h *host.Host, flow, def string) {
	t.Helper()
	if got, answer := h.Request("POST", "/start", object("flow", flow, "def", def), now); got != 200 {
		t.Fatal(flow, def, got, answer)
	}
}

// refused is the body of a refusal.
func refused(word string) string { return `{"error":"` + word + `"}` }

// owner is the body that says who may.
func owner(h int) string { return fmt.Sprintf(`{"error":"owner","host":%d}`, h) }

// events is the body that says how many there are.
func events(n int) string { return fmt.Sprintf(`{"events":%d}`, n) }

// given is the body of a poll.
func given(flow, node string, try int) string {
	return fmt.Sprintf(`{"flow":"%s","node":"%s","try":%d}`, flow, node, try)
}

// object is a body: names and values, texts and numbers.
func object(parts ...any) string {
	var l []string
	for i := 0; i < len(parts); i += 2 {
		switch v := parts[i+1].(type) {
		case int:
			l = append(l, fmt.Sprintf(`"%s":%d`, parts[i], v))
		default:
			l = append(l, fmt.Sprintf(`"%s":"%s"`, parts[i], v))
		}
	}
	return "{" + strings.Join(l, ",") + "}"
}

// flowOf is the k-th workflow of a shard of so many.
func flowOf(n, shards, k int) string {
	for i := 0; ; i++ {
		if s := fmt.Sprint("f", i); ring.Shard(s, shards) == n {
			if k == 0 {
				return s
			}
			k--
		}
	}
}

// same: nil and empty lists are one.
func same(a, b any) bool {
	return fmt.Sprint(a) == fmt.Sprint(b) || reflect.DeepEqual(a, b)
}
