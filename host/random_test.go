package host_test

import (
	"fmt"
	"math/rand"
	"slices"
	"strings"
	"testing"

	"tiller/api"
	"tiller/codec"
	"tiller/host"
	"tiller/kv"
	"tiller/lease"
)

// twins are hosts, and models of them in a town that is just like theirs: what is done to one is done to the other.
type twins struct {
	t      *testing.T
	r      *rand.Rand
	town   *town
	other  *town
	hosts  []*host.Host
	models []*model
	net    []api.Parcel
	polled []string // what polls gave out: bodies of what completes it
	time   int
	given  int
	story  []string
	met    map[string]int // how often what was answered
}

// several are definitions that do all that workflows can.
func several() []string {
	return []string{
		wText,
		"workflow t\na timer 3\nb activity q tries 2 timeout 4 after a\nc activity p",
		"workflow p\na child w\nb child none\nc send f1 s\nd child v",
		"workflow s\na send f0 s\nb send f2/a s\nc wait s\nd activity p after c",
		"workflow v\na activity q\nb timer 2",
	}
}

// knows are the definitions that a host has: not all have the same.
func knows(t testing.TB, number int) []api.Def {
	l := defs(t, several()...)
	switch number {
	case 1:
		return l[:4]
	case 2:
		return append(defs(t, "workflow w\nx timer 1\ny activity q\na activity p"), l[1:]...)
	}
	return l
}

func newTwins(t *testing.T, seed int64, met map[string]int) *twins {
	r := rand.New(rand.NewSource(seed))
	shards, hosts := 1+r.Intn(4), 1+r.Intn(3)
	w := &twins{t: t, r: r, town: lay(t, shards, hosts), other: lay(t, shards, hosts), met: met, story: []string{fmt.Sprint("seed ", seed)}}
	for i := range hosts {
		w.hosts, w.models = append(w.hosts, nil), append(w.models, nil)
		w.restart(i)
	}
	return w
}

// restart gives a host another incarnation, and an empty memory.
func (w *twins) restart(i int) {
	w.given++
	c := w.town.c
	c.Defs = knows(w.t, i)
	h, e := host.New(c, i, w.given, w.town.table, w.town.stores)
	if e != api.OK {
		w.t.Fatal(e)
	}
	w.hosts[i], w.models[i] = h, newModel(c, i, w.given, w.other.table, w.other.stores)
}

// alike must be what is answered.
func (w *twins) alike(what string, got, want any) {
	w.t.Helper()
	w.story = append(w.story, fmt.Sprint(what, " ", got))
	if !same(got, want) {
		w.t.Fatalf("%s\nis %v\nnot %v", strings.Join(w.story, "\n"), got, want)
	}
}

// standing: all that can be told must be alike.
func (w *twins) standing(i int, whole bool) {
	w.t.Helper()
	h, m := w.hosts[i], w.models[i]
	for n := -1; n <= w.town.c.Shards; n++ {
		if got, want := h.Settled(n), m.settled(n); got != want {
			w.t.Fatalf("%s\nhost %d says of %d that it is settled: %v", strings.Join(w.story, "\n"), i, n, got)
		}
		w.met[fmt.Sprint("settled ", m.open(n) != nil, m.settled(n))]++
	}
	var l []string
	l = append(l, fmt.Sprintln(m.view.Version, m.view.Hosts, m.owns()))
	for n := -1; n <= w.town.c.Shards; n++ {
		to, r := m.hostFor(n), 0
		var pending []api.Task
		o := m.open(n)
		if o != nil {
			r, pending = o.c.Range(), o.t.Pending()
		}
		l = append(l, fmt.Sprintln(n, max(to, 0), to >= 0, r, o != nil, pending))
	}
	for _, n := range m.owns() {
		l = append(l, fmt.Sprintln(n, n, m.incarnation, m.open(n).c.Range(), true))
	}
	if got, want := toldOf(h, w.town.c.Shards), strings.Join(l, ""); got != want {
		w.t.Fatalf("%s\nhost %d tells\n%s\nnot\n%s", strings.Join(w.story, "\n"), i, got, want)
	}
	if whole && w.town.told() != w.other.told() {
		w.t.Fatalf("%s\nthe towns are\n%s\nand\n%s", strings.Join(w.story, "\n"), w.town.told(), w.other.told())
	}
}

func one[T any](r *rand.Rand, list ...T) T { return list[r.Intn(len(list))] }

// trouble strikes both towns.
func (w *twins) trouble() {
	n := w.r.Intn(w.town.c.Shards+1) - 1
	a, b := w.town.leases, w.other.leases
	if n >= 0 {
		a, b = w.town.disks[n], w.other.disks[n]
	}
	after, kind := w.r.Intn(6), w.r.Intn(3)
	w.story = append(w.story, fmt.Sprint("trouble of ", n, " behind ", after, ", ", kind))
	switch w.r.Intn(4) {
	case 0:
		a.Stop(after)
		b.Stop(after)
	case 1:
		cuts := []int{w.r.Intn(300), w.r.Intn(300), w.r.Intn(300)}
		a.Crash(cuts)
		b.Crash(cuts)
		w.reopen(n)
	default:
		a.Fail(after, kind)
		b.Fail(after, kind)
	}
}

// reopen opens a shard's store, or (-1) the table, anew, and all forget.
func (w *twins) reopen(n int) {
	if n < 0 {
		w.town.table, _ = lease.Open(w.town.leases)
		w.other.table, _ = lease.Open(w.other.leases)
		for i := range w.hosts {
			w.hosts[i].ForgetAll(w.town.table)
			w.models[i].forgetAll(w.other.table)
		}
		return
	}
	w.town.stores[n], _ = kv.Open(w.town.disks[n], 0)
	w.other.stores[n], _ = kv.Open(w.other.disks[n], 0)
	for i := range w.hosts {
		w.alike("forget", w.hosts[i].Forget(n, w.town.stores[n]), w.models[i].forget(n, w.other.stores[n]))
	}
}

// body is one for a path: mostly right.
func (w *twins) body(path string) string {
	if (path == "/complete" || path == "/fail") && len(w.polled) > 0 && w.r.Intn(3) > 0 {
		return w.polled[len(w.polled)-1-w.r.Intn(min(3, len(w.polled)))]
	}
	values := map[string][]any{
		"flow": {"f0", "f1", "f2", "f2/a", "f3", "f4", "f0/a", "f1/a", "f1/d", "no flow"}, "def": {"w", "t", "p", "s", "v", "none"}, "name": {"s", "s", "z", "a b"}, "node": {"a", "b", "c", "d", "x"}, "try": {1, 1, 2, 3, -1},
		"text": {"", "x", strings.Repeat("y", 257)}, "queue": {"q", "q", "p", "none"}, "request": {"", "r0", "r1", "r2", strings.Repeat("z", 257)},
	}
	var parts []any
	for _, f := range strings.Fields(fieldsOf()[path]) {
		name := strings.TrimLeft(f, "?#")
		list := values[name]
		value := list[min(w.r.Intn(len(list)), w.r.Intn(len(list)))]
		switch w.r.Intn(60) {
		case 0:
			continue
		case 1:
			value = one[any](w.r, 1, "1")
		}
		if f[0] != '?' || w.r.Intn(3) > 0 {
			parts = append(parts, name, value)
		}
	}
	if w.r.Intn(10) == 0 {
		parts = append(parts, "more", one[any](w.r, 7, "x"))
	}
	return object(parts...)
}

// ask asks something.
func (w *twins) ask(i int) {
	path := one(w.r, "/start", "/start", "/signal", "/complete", "/complete", "/fail", "/cancel", "/poll", "/poll", "/poll", "/query", "/nothing")
	body, method := w.body(path), "POST"
	if path == "/query" {
		method = "GET"
		path += one(w.r, "", "?flow=", "?", "?x=") + one(w.r, "f0", "f1", "f2", "f3", "f1/a")
	}
	switch w.r.Intn(60) {
	case 0:
		method = one(w.r, "GET", "POST", "PUT", "")
	case 1:
		body = body[:len(body)-1]
	case 2:
		path += "?more=1"
	}
	status, answer := w.hosts[i].Request(method, path, body, w.time)
	wantStatus, want := w.models[i].request(method, path, body, w.time)
	w.alike(fmt.Sprint("host ", i, " at ", w.time, ": ", method, " ", path, " ", body), []any{status, answer}, []any{wantStatus, want})
	if path == "/poll" && status == 200 {
		w.polled = append(w.polled, answer)
	}
	w.met[fmt.Sprint(strings.Split(path, "?")[0], status)]++
}

// pick picks something.
func (w *twins) pick(i int) {
	what := one(w.r, api.PickOwn, api.PickOwn, api.PickLoad, api.PickLoad, api.PickAck, api.PickAck, api.PickFire, api.PickFire, api.PickMail, api.PickMail, api.PickMail, api.PickRenew, 7)
	n, k := w.r.Intn(w.town.c.Shards), w.r.Intn(5)-w.r.Intn(3)
	l, e := w.hosts[i].Pick(what, n, k, w.time)
	wantL, want := w.models[i].pick(what, n, k, w.time)
	w.alike(fmt.Sprint("host ", i, " at ", w.time, ": pick ", what, " of ", n, ", ", k), []any{l, e}, []any{wantL, want})
	w.net = append(w.net, l...)
	w.met[fmt.Sprint("pick", what, e)]++
}

// deliver brings a parcel to its host, or another one; it may stay under way.
func (w *twins) deliver() {
	if len(w.net) == 0 {
		return
	}
	k := w.r.Intn(len(w.net))
	p := w.net[k]
	if w.r.Intn(4) > 0 {
		w.net = slices.Delete(w.net, k, k+1)
	}
	to := p.To
	if w.r.Intn(8) == 0 {
		to = w.r.Intn(len(w.hosts))
	}
	if w.r.Intn(10) == 0 {
		p.Bytes = slices.Clone(p.Bytes)
		p.Bytes[w.r.Intn(len(p.Bytes))] += byte(1 + w.r.Intn(3))
	}
	l := w.hosts[to].Handle(p, w.time)
	e, _, _ := codec.ReadEnvelope(p.Bytes)
	w.alike(fmt.Sprint("host ", to, " at ", w.time, ": handle ", e), l, w.models[to].handle(p, w.time))
	w.net = append(w.net, l...)
	w.met[fmt.Sprintf("handle%d%d", e.Kind, len(l))]++
}

func (w *twins) step() {
	i := w.r.Intn(len(w.hosts))
	switch w.r.Intn(24) {
	case 0, 1:
		v := api.View{Version: w.models[i].view.Version + w.r.Intn(3)}
		for h := range w.hosts {
			if w.r.Intn(3) > 0 {
				v.Hosts = append(v.Hosts, h)
			}
		}
		if w.r.Intn(9) == 0 {
			v.Hosts = append(v.Hosts, one(w.r, 0, len(w.hosts), 16, -1))
		}
		w.alike(fmt.Sprint("host ", i, " learns ", v), w.hosts[i].Learn(v), w.models[i].learn(v))
	case 2:
		if w.r.Intn(3) == 0 {
			w.trouble()
		}
	case 3:
		if w.r.Intn(6) == 0 {
			w.story = append(w.story, fmt.Sprint("host ", i, " begins anew"))
			w.restart(i)
		}
	case 4, 5, 6, 7, 8, 9, 10:
		w.pick(i)
	case 11, 12, 13:
		w.deliver()
	case 14:
		w.time += w.r.Intn(3)
	default:
		w.ask(i)
	}
	w.standing(i, w.r.Intn(6) == 0)
}

// P14.1 to P14.7: whatever is done to hosts, in whatever order, with whatever trouble: they answer, and do, what the chapter says.
func TestHostsAreAsTheChapterSays(t *testing.T) {
	met := map[string]int{}
	for seed := range int64(600) {
		w := newTwins(t, seed, met)
		for range 300 {
			w.step()
		}
		for i := range w.hosts {
			w.standing(i, true)
		}
	}
	var kinds []string
	for _, path := range []string{"/start", "/signal", "/complete", "/fail", "/cancel"} {
		for _, status := range []int{200, 307, 400, 404, 405, 409, 503} {
			kinds = append(kinds, fmt.Sprint(path, status))
		}
	}
	kinds = append(kinds, "/poll200", "/poll307", "/poll400", "/poll404", "/poll405", "/poll503", "/query200", "/query307", "/query400", "/query404", "/query405", "/start413", "/cancel413", "handle11", "handle10", "handle20", "handle00", "settled true true", "settled true false", "settled false false")
	for what, refusals := range map[int][]api.Errno{
		api.PickOwn: {api.OK, api.ErrIO, api.ErrDead, api.ErrFence}, api.PickLoad: {api.OK, api.ErrOwner}, api.PickAck: {api.OK, api.ErrOwner, api.ErrIO}, api.PickFire: {api.OK, api.ErrNone, api.ErrOwner, api.ErrFence, api.ErrIO},
		api.PickMail: {api.OK, api.ErrNone, api.ErrOwner, api.ErrArg}, api.PickRenew: {api.OK, api.ErrOwner},
	} {
		for _, e := range refusals {
			kinds = append(kinds, fmt.Sprint("pick", what, e))
		}
	}
	for _, kind := range kinds {
		if met[kind] == 0 {
			t.Error("never met:", kind)
		}
	}
}
