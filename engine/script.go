package engine

import (
	"iter"
	"slices"

	"tiller/api"
	"tiller/front"
	"tiller/host"
	"tiller/kv"
	"tiller/lease"
)

const (
	wellRead = 200 // the status of bytes that are a request
	unread   = `{"error":"request"}`
)

// Do does an entry.
func (c *Cluster) Do(e api.Entry) ([]byte, api.Errno) {
	switch e.Kind {
	case api.EvRequest:
		return c.request(e.Host, e.Bytes)
	case api.EvCrash:
		return nil, c.crash(e.Host)
	case api.EvStart:
		return nil, c.start(e.Host)
	case api.EvView:
		return nil, c.learn(e.Host, e.View)
	case api.EvTick:
		return nil, c.tick(e.N)
	case api.EvPick:
		if l := c.life(e.Host); l != nil {
			return nil, c.pick(l, e.What, e.Shard, e.N)
		}
		return nil, api.ErrNone
	case api.EvDeliver, api.EvDrop, api.EvDouble:
		return nil, c.handleParcel(e.Kind, e.N)
	case api.EvFail, api.EvStop, api.EvLose:
		return nil, c.trouble(e)
	}
	return nil, api.ErrArg
}

// Run does entries one by one. It has a copy of them: who ranges over it may have changed the list meanwhile.
func (c *Cluster) Run(l []api.Entry) iter.Seq2[int, []byte] {
	entries := entriesCopy(l)
	return func(yield func(int, []byte) bool) {
		for i, e := range entries {
			reply, _ := c.Do(e)
			if !yield(i, reply) {
				return
			}
		}
	}
}

// entriesCopy are the entries in memory of their own.
func entriesCopy(l []api.Entry) []api.Entry {
	entries := slices.Clone(l)
	for i := range entries {
		e := &entries[i]
		e.Bytes, e.View.Hosts, e.Cuts = slices.Clone(e.Bytes), slices.Clone(e.View.Hosts), slices.Clone(e.Cuts)
	}
	return entries
}

// request lets a host answer.
func (c *Cluster) request(i int, raw []byte) ([]byte, api.Errno) {
	l := c.life(i)
	if l == nil {
		return nil, api.ErrNone
	}
	method, path, body, status := front.Read(raw)
	if status != wellRead {
		return front.Reply(status, unread), api.OK
	}
	return front.Reply(l.Request(method, path, body, c.Now())), api.OK
}

// crash lets a host go down, and forgets its memory.
func (c *Cluster) crash(i int) api.Errno {
	if c.life(i) == nil {
		return api.ErrNone
	}
	c.lives[i] = nil
	return api.OK
}

// start lets a host begin anew, under the next incarnation.
func (c *Cluster) start(i int) api.Errno {
	if i < 0 || i >= len(c.lives) {
		return api.ErrNone
	}
	if c.lives[i] != nil {
		return api.ErrThere
	}
	h, refusal := host.New(c.config, i, c.given+1, c.table, c.stores)
	if refusal != api.OK {
		return refusal
	}
	c.given++
	c.lives[i] = &life{Host: h, incarnation: c.given}
	return api.OK
}

// learn tells a host a view.
func (c *Cluster) learn(i int, v api.View) api.Errno {
	l := c.life(i)
	if l == nil {
		return api.ErrNone
	}
	if !l.Learn(v) {
		return api.ErrOrder
	}
	return api.OK
}

// tick lets time pass.
func (c *Cluster) tick(n int) api.Errno {
	if !c.clock.Tick(n) {
		return api.ErrArg
	}
	return api.OK
}

// pick lets a host do something for a shard.
func (c *Cluster) pick(l *life, what, shard, n int) api.Errno {
	parcels, refusal := l.Pick(what, shard, n, c.Now())
	c.send(parcels)
	return refusal
}

// send puts parcels under way. Those for which the net has no room are lost, as others are on their way: what matters is sent again.
func (c *Cluster) send(parcels []api.Parcel) {
	for _, p := range parcels {
		c.net.Send(p)
	}
}

// handleParcel does something with a parcel that is under way.
func (c *Cluster) handleParcel(kind, n int) api.Errno {
	many := c.net.Len()
	if many == 0 {
		return api.ErrNone
	}
	i := (n%many + many) % many
	switch kind {
	case api.EvDeliver:
		c.deliver(i)
	case api.EvDrop:
		c.net.Drop(i)
	case api.EvDouble:
		if !c.net.Double(i) {
			return api.ErrFull
		}
	}
	return api.OK
}

// deliver brings a parcel to its host, if that is up.
func (c *Cluster) deliver(i int) {
	p, there := c.net.Take(i)
	if l := c.life(p.To); there && l != nil {
		c.send(l.Handle(p, c.Now()))
	}
}

// trouble strikes a disk.
func (c *Cluster) trouble(e api.Entry) api.Errno {
	disk := c.Disk(e.Shard)
	if disk == nil {
		return api.ErrArg
	}
	switch e.Kind {
	case api.EvFail:
		disk.Fail(e.N, e.Kind2)
	case api.EvStop:
		disk.Stop(e.N)
	case api.EvLose:
		disk.Crash(e.Cuts)
		c.reopen(e.Shard)
	}
	return api.OK
}

// reopen opens what lies on a disk that has crashed. Nobody may hold on to what it was: it may have been more.
func (c *Cluster) reopen(shard int) {
	if shard == leasesDisk {
		c.table, _ = lease.Open(c.leases)
	} else {
		c.stores[shard], _ = kv.Open(c.disks[shard], 0)
	}
	for l := range c.up() {
		if shard == leasesDisk {
			l.ForgetAll(c.table)
		} else {
			l.Forget(shard, c.stores[shard])
		}
	}
}
