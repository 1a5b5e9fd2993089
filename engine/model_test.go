package engine_test

import (
	"fmt"
	"slices"
	"strings"

	"tiller/api"
	"tiller/exec"
	"tiller/front"
	"tiller/host"
	"tiller/kv"
	"tiller/lease"
	"tiller/world"
)

// model is a cluster as the chapter's words say it, by the calls that they name. Its net is a list, and it follows by itself how far each hold has loaded.
type model struct {
	c       api.Config
	leases  *world.Disk
	table   *lease.Table
	disks   []*world.Disk
	stores  []*kv.Store
	hosts   map[int]*host.Host // those that are up
	number  map[int]int        // their incarnations
	last    int                // the last incarnation
	net     []api.Parcel
	now     int
	cursors map[[3]int]api.ID // by incarnation, shard, range
}

func newModel(c api.Config) *model {
	m := &model{c: c, leases: world.NewDisk(), hosts: map[int]*host.Host{}, number: map[int]int{}, cursors: map[[3]int]api.ID{}}
	m.table, _ = lease.Open(m.leases)
	for range c.Shards {
		d := world.NewDisk()
		s, _ := kv.Open(d, 0)
		m.disks, m.stores = append(m.disks, d), append(m.stores, s)
	}
	for i := range c.Hosts {
		m.start(i)
	}
	return m
}

func (m *model) start(i int) {
	m.last++
	m.hosts[i], _ = host.New(m.c, i, m.last, m.table, m.stores)
	m.number[i] = m.last
}

func (m *model) exec(n int) *exec.Exec {
	x, _ := exec.New(m.stores[n], m.c.Shards, n)
	return x
}

func (m *model) send(l []api.Parcel) {
	for _, p := range l {
		if len(m.net) < 1024 {
			m.net = append(m.net, p)
		}
	}
}

// take takes the i-th parcel out of the row.
func (m *model) take(i int) api.Parcel {
	p := m.net[i]
	m.net = slices.Delete(slices.Clone(m.net), i, i+1)
	return p
}

func (m *model) deliver(i int) {
	p := m.take(i)
	if h := m.hosts[p.To]; h != nil {
		m.send(h.Handle(p, m.now))
	}
}

// hold names the hold of a shard.
func (m *model) hold(i, n int) ([3]int, bool) {
	r, held := m.hosts[i].Range(n)
	return [3]int{m.number[i], n, r}, held
}

// ahead is the order of IDs.
func ahead(a, b api.ID) bool {
	return real(a) < real(b) || real(a) == real(b) && imag(a) < imag(b)
}

// unloaded are the dispatches behind a hold's cursor.
func (m *model) unloaded(name [3]int) []api.Task {
	l := m.exec(name[1]).Dispatches()
	return slices.DeleteFunc(l, func(t api.Task) bool { return !ahead(m.cursors[name], t.ID) })
}

func (m *model) pick(i, what, n, k int) api.Errno {
	h := m.hosts[i]
	l, e := h.Pick(what, n, k, m.now)
	m.send(l)
	if e != api.OK {
		return e
	}
	name, held := m.hold(i, n)
	if _, known := m.cursors[name]; held && !known {
		m.cursors[name] = m.exec(n).Level()
	}
	if what == api.PickLoad {
		tasks := m.unloaded(name)
		for k < 0 {
			k += 16
		}
		if tasks = tasks[:min(k%16+1, len(tasks))]; len(tasks) > 0 {
			m.cursors[name] = tasks[len(tasks)-1].ID
		}
	}
	return api.OK
}

func (m *model) do(e api.Entry) ([]byte, api.Errno) {
	h := m.hosts[e.Host]
	switch e.Kind {
	case api.EvRequest, api.EvView, api.EvPick, api.EvCrash:
		if h == nil {
			return nil, api.ErrNone
		}
	case api.EvDeliver, api.EvDrop, api.EvDouble:
		if len(m.net) == 0 {
			return nil, api.ErrNone
		}
	case api.EvFail, api.EvStop, api.EvLose:
		if e.Shard < -1 || e.Shard >= m.c.Shards {
			return nil, api.ErrArg
		}
	}
	switch e.Kind {
	case api.EvRequest:
		method, path, body, status := front.Read(e.Bytes)
		if status == 200 {
			return front.Reply(h.Request(method, path, body, m.now)), api.OK
		}
		return front.Reply(status, `{"error":"request"}`), api.OK
	case api.EvCrash:
		delete(m.hosts, e.Host)
	case api.EvStart:
		if e.Host < 0 || e.Host >= m.c.Hosts {
			return nil, api.ErrNone
		}
		if h != nil {
			return nil, api.ErrThere
		}
		m.start(e.Host)
	case api.EvView:
		if !h.Learn(e.View) {
			return nil, api.ErrOrder
		}
	case api.EvTick:
		if e.N < 1 || e.N > api.MaxTime-m.now {
			return nil, api.ErrArg
		}
		m.now += e.N
	case api.EvPick:
		return nil, m.pick(e.Host, e.What, e.Shard, e.N)
	case api.EvDeliver:
		m.deliver(m.place(e.N))
	case api.EvDrop:
		m.take(m.place(e.N))
	case api.EvDouble:
		if len(m.net) == 1024 {
			return nil, api.ErrFull
		}
		m.net = append(m.net, m.net[m.place(e.N)])
	case api.EvFail, api.EvStop, api.EvLose:
		m.trouble(e)
	default:
		return nil, api.ErrArg
	}
	return nil, api.OK
}

// place is n modulo how many parcels there are.
func (m *model) place(n int) int {
	if n %= len(m.net); n < 0 {
		n += len(m.net)
	}
	return n
}

func (m *model) trouble(e api.Entry) {
	d := m.leases
	if e.Shard >= 0 {
		d = m.disks[e.Shard]
	}
	switch e.Kind {
	case api.EvFail:
		d.Fail(e.N, e.Kind2)
	case api.EvStop:
		d.Stop(e.N)
	default:
		d.Crash(e.Cuts)
		if e.Shard < 0 {
			m.table, _ = lease.Open(d)
		} else {
			m.stores[e.Shard], _ = kv.Open(d, 0)
		}
		for _, h := range m.hosts {
			if e.Shard < 0 {
				h.ForgetAll(m.table)
			} else {
				h.Forget(e.Shard, m.stores[e.Shard])
			}
		}
	}
}

func (m *model) round() int {
	sum := 0
	count := func(e api.Errno) bool {
		if e == api.OK {
			sum++
		}
		return e == api.OK
	}
	for i := range m.c.Hosts {
		for n := range m.c.Shards {
			if m.hosts[i] == nil {
				continue
			}
			count(m.pick(i, api.PickOwn, n, 0))
			if !slices.Contains(m.hosts[i].Owns(), n) {
				continue
			}
			count(m.pick(i, api.PickLoad, n, 15))
			count(m.pick(i, api.PickAck, n, 0))
			for k := 0; k < 256 && count(m.pick(i, api.PickFire, n, 0)); k++ {
			}
			for to := range m.c.Shards {
				count(m.pick(i, api.PickMail, n, to))
			}
		}
	}
	for range 2 {
		for k := len(m.net); k > 0; k-- {
			m.deliver(0)
		}
	}
	return sum
}

// stale by P14.6.
func (m *model) stale(x *exec.Exec, task api.Task) bool {
	s, there := x.Load(task.Flow)
	if !there || s.Status != api.Running {
		return true
	}
	for _, d := range m.c.Defs {
		for i, n := range d.Nodes {
			if d.Name == s.Def && n.Name == task.Node {
				return s.Nodes[i].Status != api.Ready || s.Nodes[i].Try != task.Try-1
			}
		}
	}
	return true
}

func (m *model) still() bool {
	for n := range m.c.Shards {
		x := m.exec(n)
		for to := range m.c.Shards {
			if len(x.Outbox(to)) > 0 {
				return false
			}
		}
		for _, t := range x.Alarms() {
			if t.At <= m.now {
				return false
			}
		}
		some := false
		for i, h := range m.hosts {
			name, held := m.hold(i, n)
			some = some || held && len(m.unloaded(name)) == 0 && !slices.ContainsFunc(h.Pending(n), func(t api.Task) bool { return m.stale(x, t) })
		}
		if !some {
			return false
		}
	}
	return len(m.net) == 0
}

// told is as told of a cluster.
func (m *model) told() string {
	var b strings.Builder
	fmt.Fprintln(&b, m.now, leasesTold(m.table), diskTold(m.leases))
	for n := range m.c.Shards {
		fmt.Fprintln(&b, n, diskTold(m.disks[n]), storeTold(m.stores[n]))
	}
	for i := range api.MaxHosts {
		number := m.number[i]
		if m.hosts[i] == nil {
			number = 0
		}
		fmt.Fprint(&b, i, number, hostTold(m.hosts[i], m.c.Shards))
	}
	for i, p := range m.net {
		fmt.Fprintln(&b, i, p)
	}
	return b.String()
}
