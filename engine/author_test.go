package engine_test

import (
	"fmt"
	"math/rand"
	"strings"
	"testing"

	"tiller/api"
	"tiller/engine"
	"tiller/ring"
	"tiller/world"
)

// author writes scripts: entries that fit a cluster as it stands, more or less.
type author struct {
	r       *rand.Rand
	c       api.Config
	hosts   []int    // that it writes of
	polled  []string // what polls gave out: bodies of what completes it
	version int
	calm    bool // no trouble of disks
	todo    []func() api.Entry
	path    string // of the last request
	body    string
}

// several are definitions that do all that workflows can.
func several() []string {
	return []string{
		wText,
		oneText,
		"workflow t\na timer 3\nb activity q tries 2 timeout 4 after a\nc activity p",
		"workflow p\na child w\nb child one\nc send f1 s\nd child t",
		"workflow n\na child one\nb child none\nc wait s",
		"workflow s\na send f0 s\nb send f2/a s\nc wait s\nd activity p after c",
		"workflow v\na activity q\nb timer 2\nc child v2",
		"workflow v2\na child one\nb child one after a",
	}
}

// newAuthor writes for a cluster of some size.
func newAuthor(t testing.TB, seed int64) *author {
	a := &author{r: rand.New(rand.NewSource(seed))}
	shards, hosts := 1+a.r.Intn(4), 1+a.r.Intn(3)
	for i := range hosts {
		a.hosts = append(a.hosts, i)
	}
	if seed%3 == 0 { // of these hosts each has some shards, if the view has both
		shards, hosts, a.hosts = 10+a.r.Intn(3), 12, []int{0, 10, 11}
	}
	a.c = config(t, shards, hosts, several()...)
	return a
}

// begin are the entries of a beginning: those hosts that it doesn't write of are down, the others mostly hold something.
func (a *author) begin() []api.Entry {
	var l []api.Entry
	for i := range a.c.Hosts {
		if a.c.Hosts > 3 && i > 0 && i < 10 {
			l = append(l, api.Entry{Kind: api.EvCrash, Host: i})
		}
	}
	v := a.view()
	for _, i := range a.hosts {
		l = append(l, api.Entry{Kind: api.EvView, Host: i, View: v})
		for n := range a.c.Shards {
			l = append(l, api.Entry{Kind: api.EvPick, Host: i, What: api.PickOwn, Shard: n})
		}
	}
	return l
}

func one[T any](r *rand.Rand, list ...T) T { return list[r.Intn(len(list))] }

// view is the next one.
func (a *author) view() api.View {
	a.version++
	v := api.View{Version: a.version}
	for _, i := range a.hosts {
		if a.r.Intn(3) > 0 {
			v.Hosts = append(v.Hosts, i)
		}
	}
	if a.r.Intn(3) > 0 && len(v.Hosts) == 0 {
		v.Hosts = a.hosts
	}
	return v
}

// flow is one that there is, or may be.
func (a *author) flow(x *engine.Cluster) string {
	if l := x.Flows(); len(l) > 0 && a.r.Intn(3) > 0 {
		return l[a.r.Intn(len(l))]
	}
	return one(a.r, "f0", "f1", "f2", "f3", "f2/a", "f4", "f5", "f6", "f7", "f8", "f9", "g/h", "no$flow")
}

// holder is a host, more likely one that holds that shard, or something.
func (a *author) holder(x *engine.Cluster, n int) int {
	for range 9 {
		i := one(a.r, a.hosts...)
		if h := x.Host(i); h != nil {
			if _, held := h.Range(n); held || n < 0 && len(h.Owns()) > 0 {
				return i
			}
		}
	}
	return one(a.r, a.hosts...)
}

// cuts are some for a disk as it stands: what is not kept is often kept by them, or torn at its end.
func (a *author) cuts(d *world.Disk) []int {
	var l []int
	for _, f := range d.Files() {
		u := len(d.Read(f)) - d.Kept(f)
		l = append(l, one(a.r, 0, 2*u-1, 2*u-1, 2*u, a.r.Intn(2*u+1), a.r.Intn(500)-30))
	}
	return l
}

// later writes entries that come next.
func (a *author) later(l ...func() api.Entry) { a.todo = append(a.todo, l...) }

// owning are the picks by which a host takes what is its own.
func (a *author) owning(i int) {
	for n := range a.c.Shards {
		a.later(func() api.Entry { return api.Entry{Kind: api.EvPick, Host: i, What: api.PickOwn, Shard: n} })
	}
}

// ask is a request: its path and its body.
func (a *author) ask(x *engine.Cluster) (string, string) {
	r := a.r
	request := func(parts ...any) string {
		switch r.Intn(6) {
		case 0, 1:
			parts = append(parts, "request", fmt.Sprint("r", r.Intn(4)))
		case 2:
			parts = append(parts, "request", one(r, "", strings.Repeat("z", 256), strings.Repeat("z", 257)))
		}
		return object(parts...)
	}
	text := one(r, "", "x", "y", strings.Repeat("t", 256), strings.Repeat("t", 257))
	switch r.Intn(14) {
	case 0, 1, 2:
		return "/start", request("flow", a.flow(x), "def", one(r, "w", "one", "t", "p", "n", "s", "v", "v2", "none"))
	case 3, 4:
		return "/signal", request("flow", a.flow(x), "name", one(r, "s", "s", "s", "z", "a b"), "text", text)
	case 5, 6, 7:
		path := one(r, "/complete", "/complete", "/complete", "/fail")
		if len(a.polled) > 0 && r.Intn(5) > 0 {
			return path, a.polled[len(a.polled)-1-r.Intn(min(4, len(a.polled)))]
		}
		return path, request("flow", a.flow(x), "node", one(r, "a", "b", "c", "x"), "try", r.Intn(4), "text", text)
	case 8:
		return "/cancel", request("flow", a.flow(x), "text", text)
	case 9:
		return "/query?flow=" + a.flow(x), ""
	case 10:
		return one(r, "/nothing", "/query", "/start", "/poll"), one(r, "", "{}", "x", object("flow", 1), object("flow", "f0"))
	}
	return "/poll", object("queue", one(r, "q", "q", "q", "p", "none"))
}

// line is an entry in a story.
func line(e api.Entry) string {
	if e.Kind == api.EvRequest {
		return fmt.Sprintf("request to %d: %.200q", e.Host, e.Bytes)
	}
	names := []string{"?", "", "crash", "start", "view", "tick", "pick", "deliver", "drop", "double", "fail", "stop", "lose"}
	name := names[0]
	if e.Kind > 0 && e.Kind < len(names) {
		name = names[e.Kind]
	}
	return fmt.Sprint(name, " host ", e.Host, " shard ", e.Shard, " what ", e.What, " n ", e.N, " kind2 ", e.Kind2, " ", e.View, e.Cuts)
}

// heard listens to what polls are answered.
func (a *author) heard(path, body string, status int) {
	if path == "/poll" && status == 200 {
		a.polled = append(a.polled, body)
	}
}

// trouble strikes a disk, and often it crashes soon.
func (a *author) trouble(x *engine.Cluster) api.Entry {
	r := a.r
	n := r.Intn(a.c.Shards+1) - 1
	if l := x.Flows(); len(l) > 0 && r.Intn(2) == 0 {
		n = ring.Shard(l[r.Intn(len(l))], a.c.Shards)
	}
	lose := func() api.Entry {
		return api.Entry{Kind: api.EvLose, Shard: n, Cuts: a.cuts(x.Disk(n))}
	}
	switch r.Intn(9) {
	case 0:
		return lose()
	case 1:
		return api.Entry{Kind: one(r, api.EvFail, api.EvStop, api.EvLose), Shard: one(r, -2, a.c.Shards, 16)}
	}
	e := api.Entry{Kind: one(r, api.EvFail, api.EvFail, api.EvFail, api.EvStop), Shard: n, N: r.Intn(5) - 1, Kind2: r.Intn(3)}
	for range r.Intn(3) {
		a.later(func() api.Entry { return a.request(x, n) })
	}
	if i := a.holder(x, n); r.Intn(2) == 0 {
		what := one(r, api.PickOwn, api.PickFire, api.PickFire, api.PickAck)
		a.later(func() api.Entry { return api.Entry{Kind: api.EvPick, Host: i, What: what, Shard: max(n, 0)} })
	}
	if r.Intn(3) == 0 {
		a.later(func() api.Entry { return api.Entry{Kind: api.EvDeliver} })
	}
	if r.Intn(4) > 0 {
		a.later(lose)
		for _, i := range a.hosts {
			a.owning(i)
		}
	}
	return e
}

// request is one; of a shard, if n is one.
func (a *author) request(x *engine.Cluster, n int) api.Entry {
	path, body := a.ask(x)
	for k := 0; k < 20 && n >= 0 && path != "/poll"; k++ {
		flow, _, _ := strings.Cut(strings.TrimPrefix(body, `{"flow":"`), `"`)
		if ring.Shard(flow, a.c.Shards) == n {
			break
		}
		path, body = a.ask(x)
	}
	a.path, a.body = path, body
	i := a.holder(x, -1)
	if flow, _, is := strings.Cut(strings.TrimPrefix(body, `{"flow":"`), `"`); is && path != "/poll" {
		i = a.holder(x, ring.Shard(flow, a.c.Shards))
	} else if _, flow, is := strings.Cut(path, "flow="); is {
		i = a.holder(x, ring.Shard(flow, a.c.Shards))
	}
	if a.r.Intn(12) == 0 {
		i = one(a.r, append([]int{-1, a.c.Hosts, 1}, a.hosts...)...)
	}
	return api.Entry{Kind: api.EvRequest, Host: i, Bytes: bytesOf(path, body)}
}

// mail is a pick of a mail that waits, if there is one, and what becomes of it.
func (a *author) mail(x *engine.Cluster) api.Entry {
	from, to := a.r.Intn(a.c.Shards), a.r.Intn(a.c.Shards)
	for range 9 {
		if len(x.Exec(from).Outbox(to)) > 0 {
			break
		}
		from, to = a.r.Intn(a.c.Shards), a.r.Intn(a.c.Shards)
	}
	for range a.r.Intn(4) {
		kind, n := one(a.r, api.EvDeliver, api.EvDeliver, api.EvDeliver, api.EvDeliver, api.EvDrop, api.EvDouble), one(a.r, -1, -1, 0, a.r.Intn(9))
		a.later(func() api.Entry { return api.Entry{Kind: kind, N: n} })
	}
	return api.Entry{Kind: api.EvPick, Host: a.holder(x, from), What: api.PickMail, Shard: from, N: to}
}

// next is an entry; of a request also its path and body.
func (a *author) next(x *engine.Cluster) (api.Entry, string, string) {
	a.path, a.body = "", ""
	var e api.Entry
	if len(a.todo) > 0 {
		first := a.todo[0]
		a.todo = a.todo[1:]
		e = first()
	} else {
		e = a.some(x)
	}
	return e, a.path, a.body
}

// some is any entry.
func (a *author) some(x *engine.Cluster) api.Entry {
	r := a.r
	i := one(r, a.hosts...)
	if r.Intn(60) == 0 {
		i = one(r, -1, a.c.Hosts, 1, 16)
	}
	switch k := r.Intn(100); {
	case k < 2:
		for _, i := range a.hosts {
			a.owning(i)
		}
		return api.Entry{Kind: api.EvView, Host: i, View: a.view()}
	case k < 3:
		v := a.view()
		a.version -= r.Intn(3)
		v.Version, v.Hosts = a.version, append(v.Hosts, one(r, 0, 3, 16, -1))
		return api.Entry{Kind: api.EvView, Host: i, View: v}
	case k < 4:
		return api.Entry{Kind: api.EvCrash, Host: i}
	case k < 8:
		v := a.view()
		v.Hosts = one(r, v.Hosts, a.hosts)
		if x.Host(i) == nil {
			a.later(func() api.Entry { return api.Entry{Kind: api.EvView, Host: i, View: v} })
			a.owning(i)
		}
		return api.Entry{Kind: api.EvStart, Host: i}
	case k < 13:
		return api.Entry{Kind: api.EvTick, N: r.Intn(5) - 1}
	case k < 14:
		return api.Entry{Kind: one(r, 0, 13, -1)}
	case k < 19 && !a.calm:
		return a.trouble(x)
	case k < 38:
		n := r.Intn(a.c.Shards)
		what := one(r, api.PickOwn, api.PickLoad, api.PickLoad, api.PickLoad, api.PickAck, api.PickFire, api.PickFire, api.PickMail, api.PickRenew, 7)
		if what == api.PickLoad {
			a.later(func() api.Entry { return a.request(x, -1) })
		}
		return api.Entry{Kind: api.EvPick, Host: a.holder(x, n), What: what, Shard: n, N: r.Intn(20) - 2}
	case k < 55:
		return a.mail(x)
	case k < 60:
		return api.Entry{Kind: one(r, api.EvDeliver, api.EvDeliver, api.EvDeliver, api.EvDeliver, api.EvDrop, api.EvDouble), N: r.Intn(9) - 3}
	case k < 62:
		return api.Entry{Kind: api.EvRequest, Host: i, Bytes: []byte(one(r, "", "x", "PUT / HTTP/1.1\r\n\r\n", "GET /start HTTP/1.1\r\n\r\n"))}
	}
	return a.request(x, -1)
}
