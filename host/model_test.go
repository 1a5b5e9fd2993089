package host_test

import (
	"fmt"
	"slices"
	"strings"

	"tiller/api"
	"tiller/codec"
	"tiller/exec"
	"tiller/front"
	"tiller/history"
	"tiller/kv"
	"tiller/lease"
	"tiller/queue"
	"tiller/ring"
	"tiller/shard"
	"tiller/xshard"
)

// model is a host as the chapter's words say it, by the calls that they name.
type model struct {
	c           api.Config
	number      int
	incarnation int
	table       *lease.Table
	stores      []*kv.Store
	view        api.View
	holds       map[int]*had
}

type had struct {
	c *shard.Ctx
	x *exec.Exec
	t *queue.Transfer
	a *queue.Alarms
}

func newModel(c api.Config, number, incarnation int, t *lease.Table, stores []*kv.Store) *model {
	return &model{c: c, number: number, incarnation: incarnation, table: t, stores: slices.Clone(stores), holds: map[int]*had{}}
}

// open is the open hold of a shard, or nil.
func (m *model) open(n int) *had {
	if o := m.holds[n]; o != nil && o.c.Open() {
		return o
	}
	return nil
}

func (m *model) learn(v api.View) bool {
	last := -1
	for _, h := range v.Hosts {
		if h <= last || h >= m.c.Hosts {
			return false
		}
		last = h
	}
	if v.Version <= m.view.Version || v.Version > api.MaxNumber {
		return false
	}
	m.view = api.View{Version: v.Version, Hosts: slices.Clone(v.Hosts)}
	return true
}

// hostFor is the host for a shard; -1, if there is none.
func (m *model) hostFor(n int) int {
	r, _ := ring.New(m.view.Hosts, m.c.Points)
	if h, some := r.Host(n); some {
		return h
	}
	return -1
}

func (m *model) owns() []int {
	var out []int
	for n := range m.c.Shards {
		if m.open(n) != nil {
			out = append(out, n)
		}
	}
	return out
}

func (m *model) forget(n int, s *kv.Store) bool {
	if n < 0 || n >= m.c.Shards {
		return false
	}
	delete(m.holds, n)
	if s != nil {
		m.stores[n] = s
	}
	return true
}

func (m *model) forgetAll(t *lease.Table) {
	clear(m.holds)
	if t != nil {
		m.table = t
	}
}

// def is the definition of a name, or nil.
func (m *model) def(name string) *api.Def {
	for i := range m.c.Defs {
		if m.c.Defs[i].Name == name {
			return &m.c.Defs[i]
		}
	}
	return nil
}

// flow is a workflow as it stands, and its definition; nil, if either is none.
func (m *model) flow(o *had, name string) (api.State, *api.Def) {
	s, there := o.x.Load(name)
	if !there {
		return api.State{}, nil
	}
	return s, m.def(s.Def)
}

func (m *model) pick(what, n, k, now int) ([]api.Parcel, api.Errno) {
	if n < 0 || n >= m.c.Shards || what < 1 || what > 6 {
		return nil, api.ErrArg
	}
	o := m.open(n)
	mine := m.hostFor(n) == m.number
	if what == api.PickOwn {
		if mine && o == nil {
			c, e := shard.Acquire(m.table, m.stores[n], n, m.incarnation)
			if e == api.OK {
				x, _ := exec.New(m.stores[n], m.c.Shards, n)
				t, _ := queue.NewTransfer(x, c)
				a, _ := queue.NewAlarms(x, c)
				m.holds[n] = &had{c, x, t, a}
			}
			return nil, e
		}
		if !mine && o != nil {
			delete(m.holds, n)
			return nil, o.c.Release()
		}
		return nil, api.OK
	}
	if o == nil {
		return nil, api.ErrOwner
	}
	switch what {
	case api.PickLoad:
		for k < 0 {
			k += 16
		}
		o.t.Load(k%16 + 1)
	case api.PickAck:
		_, e := o.t.Ack()
		return nil, e
	case api.PickFire:
		return nil, m.fire(o, now)
	case api.PickMail:
		if k < 0 || k >= m.c.Shards {
			return nil, api.ErrArg
		}
		l := o.x.Outbox(k)
		to := m.hostFor(k)
		if len(l) == 0 || to < 0 {
			return nil, api.ErrNone
		}
		raw, _ := codec.Envelope(l[0])
		return []api.Parcel{{From: m.number, To: to, Bytes: raw}}, api.OK
	case api.PickRenew:
		if !o.c.Renew() {
			return nil, api.ErrOwner
		}
	}
	return nil, api.OK
}

func (m *model) fire(o *had, now int) api.Errno {
	alarm, due := o.a.Due(now)
	if !due {
		return api.ErrNone
	}
	if s, d := m.flow(o, alarm.Flow); d != nil {
		events, next, tasks, e := history.Step(*d, s, api.Input{Kind: api.InFire, Node: alarm.Node, Try: alarm.Try, Now: now})
		if e == api.OK {
			if _, e := o.x.Commit(o.c, api.Update{Flow: alarm.Flow, Expect: s.Events, Events: events, State: next, Tasks: tasks}); e != api.OK {
				return e
			}
		}
	}
	return o.a.Finish(alarm.ID)
}

func (m *model) handle(p api.Parcel, now int) []api.Parcel {
	e, _, why := codec.ReadEnvelope(p.Bytes)
	o := m.open(e.To)
	if why != api.OK || o == nil {
		return nil
	}
	if e.Kind == api.EnvAck {
		xshard.Collect(o.x, o.c, e)
		return nil
	}
	ack, why := xshard.Receive(o.x, o.c, m.c.Defs, e, now)
	to := m.hostFor(ack.To)
	if why != api.OK || to < 0 {
		return nil
	}
	raw, _ := codec.Envelope(ack)
	return []api.Parcel{{From: m.number, To: to, Bytes: raw}}
}

// said is a refusal as it is answered; words is the chapter's for its number.
func said(e api.Errno) (int, string) {
	words := map[api.Errno]string{
		api.ErrNone: "404 none", api.ErrThere: "409 there", api.ErrClosed: "409 closed", api.ErrState: "409 state", api.ErrFull: "429 full", api.ErrLarge: "413 large",
		api.ErrName: "400 name", api.ErrForm: "400 form", api.ErrArg: "400 argument", api.ErrIO: "503 storage", api.ErrDead: "503 storage",
	}
	status, word := 400, "refused"
	fmt.Sscan(words[e], &status, &word)
	return status, `{"error":"` + word + `"}`
}

// elsewhere is what is answered of a shard that is not held.
func (m *model) elsewhere(n int) (int, string) {
	return 307, fmt.Sprintf(`{"error":"owner","host":%d}`, m.hostFor(n))
}

// saidOf is said, or elsewhere.
func (m *model) saidOf(e api.Errno, n int) (int, string) {
	if e == api.ErrOwner || e == api.ErrFence {
		return m.elsewhere(n)
	}
	return said(e)
}

// fieldsOf says for each path its fields: `?` ahead of one that may lack, `#` ahead of a number.
func fieldsOf() map[string]string {
	return map[string]string{
		"/start": "flow def ?request", "/signal": "flow name ?text ?request", "/complete": "flow node #try ?text ?request", "/fail": "flow node #try ?text ?request",
		"/cancel": "flow ?text ?request", "/poll": "queue", "/query": "flow",
	}
}

func (m *model) request(method, path, body string, now int) (int, string) {
	where, behind, _ := strings.Cut(path, "?")
	fields, there := fieldsOf()[where]
	if !there {
		return said(api.ErrNone)
	}
	if where == "/query" && method != "GET" || where != "/query" && method != "POST" {
		return 405, `{"error":"method"}`
	}
	got, try := map[string]string{}, 0
	if where == "/query" {
		if !strings.HasPrefix(behind, "flow=") {
			return said(api.ErrArg)
		}
		got["flow"] = behind[len("flow="):]
	} else {
		l, _, e := front.Object(body)
		if e != api.OK {
			return said(api.ErrForm)
		}
		for _, f := range strings.Fields(fields) {
			name := strings.TrimLeft(f, "?#")
			i := slices.IndexFunc(l, func(p api.Pair) bool { return p.Key == name })
			if i < 0 && f[0] == '?' {
				continue
			}
			if i < 0 || (l[i].Value[0] == '"') == (f[0] == '#') {
				return said(api.ErrArg)
			}
			got[name] = strings.TrimPrefix(l[i].Value, `"`)
			if f[0] == '#' {
				fmt.Sscan(l[i].Value, &try)
			}
		}
	}
	if where == "/poll" {
		return m.poll(got["queue"], now)
	}
	return m.about(where, got, try, now)
}

// isFlow is the chapter's word for a workflow's name.
func isFlow(s string) bool {
	const bytes = "abcdefghijklmnopqrstuvwxyzABCDEFGHIJKLMNOPQRSTUVWXYZ0123456789.-_/"
	return len(s) >= 1 && len(s) <= 256 && strings.Trim(s, bytes) == "" && !strings.ContainsFunc(s, func(r rune) bool { return !strings.ContainsRune(bytes, r) })
}

// about answers a request that is about a workflow.
func (m *model) about(where string, got map[string]string, try, now int) (int, string) {
	flow, request := got["flow"], got["request"]
	if !isFlow(flow) {
		return said(api.ErrName)
	}
	if len(request) > 256 {
		return said(api.ErrLarge)
	}
	n := ring.Shard(flow, m.c.Shards)
	o := m.open(n)
	if o == nil {
		return m.elsewhere(n)
	}
	if answer, known := o.x.Answer(flow, request); request != "" && known {
		return 200, answer
	}
	s, d := m.flow(o, flow)
	in := api.Input{Node: got["node"], Text: got["text"], Name: got["name"], Try: try, Now: now}
	switch where {
	case "/start":
		in.Kind, in.Name = api.InStart, flow
		d = m.def(got["def"])
	case "/signal":
		in.Kind = api.InSignal
	case "/complete":
		in.Kind = api.InComplete
	case "/fail":
		in.Kind = api.InFail
	case "/cancel":
		in.Kind = api.InCancel
	}
	if d == nil {
		return said(api.ErrNone)
	}
	if where == "/query" {
		return 200, front.State(*d, s)
	}
	events, next, tasks, e := history.Step(*d, s, in)
	if e != api.OK {
		return said(e)
	}
	answer := fmt.Sprintf(`{"events":%d}`, s.Events+len(events))
	_, e = o.x.Commit(o.c, api.Update{Flow: flow, Expect: s.Events, Events: events, State: next, Tasks: tasks, Request: request, Answer: answer})
	if e != api.OK {
		return m.saidOf(e, n)
	}
	return 200, answer
}

// stale by P14.6; else what it is about.
func (m *model) stale(o *had, task api.Task) (api.State, *api.Def, api.Node, bool) {
	s, d := m.flow(o, task.Flow)
	if d == nil || s.Status != api.Running {
		return s, nil, api.Node{}, true
	}
	for i, n := range d.Nodes {
		if n.Name == task.Node && i < len(s.Nodes) {
			return s, d, n, s.Nodes[i].Status != api.Ready || s.Nodes[i].Try != task.Try-1
		}
	}
	return s, nil, api.Node{}, true
}

func (m *model) poll(queue string, now int) (int, string) {
	for _, n := range m.owns() {
		o := m.open(n)
		for _, task := range o.t.Pending() {
			s, d, node, stale := m.stale(o, task)
			if stale {
				o.t.Finish(task.ID)
				continue
			}
			if node.Arg != queue {
				continue
			}
			events, next, tasks, e := history.Step(*d, s, api.Input{Kind: api.InTake, Node: task.Node, Now: now})
			if e == api.OK {
				_, e = o.x.Commit(o.c, api.Update{Flow: task.Flow, Expect: s.Events, Events: events, State: next, Tasks: tasks})
			}
			if e != api.OK {
				return m.saidOf(e, n)
			}
			o.t.Finish(task.ID)
			return 200, fmt.Sprintf(`{"flow":"%s","node":"%s","try":%d}`, task.Flow, task.Node, task.Try)
		}
	}
	return said(api.ErrNone)
}
