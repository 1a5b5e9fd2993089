package host

import (
	"slices"

	"tiller/api"
	"tiller/codec"
	"tiller/exec"
	"tiller/history"
	"tiller/queue"
	"tiller/shard"
	"tiller/xshard"
)

const mostLoaded = 16 // by one pick

// Pick does something for a shard.
func (h *Host) Pick(what, shard, n, now int) ([]api.Parcel, api.Errno) {
	if !h.isShard(shard) || what < api.PickOwn || what > api.PickRenew {
		return nil, api.ErrArg
	}
	if what == api.PickOwn {
		return nil, h.own(shard)
	}
	o := h.held(shard)
	if o == nil {
		return nil, api.ErrOwner
	}
	refusal := api.OK
	switch what {
	case api.PickLoad:
		o.transfer.Load((n%mostLoaded+mostLoaded)%mostLoaded + 1)
	case api.PickAck:
		_, refusal = o.transfer.Ack()
	case api.PickFire:
		refusal = h.fire(o, now)
	case api.PickMail:
		return h.mail(o, n)
	case api.PickRenew:
		if !o.c.Renew() {
			refusal = api.ErrOwner
		}
	}
	return nil, refusal
}

// own takes a shard, or gives it back, as the view wants it.
func (h *Host) own(n int) api.Errno {
	to, some := h.For(n)
	mine := some && to == h.number
	o := h.held(n)
	switch {
	case mine && o == nil:
		return h.acquire(n)
	case !mine && o != nil:
		h.holds[n] = nil
		return o.c.Release()
	}
	return api.OK
}

// acquire takes a shard.
func (h *Host) acquire(n int) api.Errno {
	c, refusal := shard.Acquire(h.table, h.stores[n], n, h.incarnation)
	if refusal != api.OK {
		return refusal
	}
	x, _ := exec.New(h.stores[n], h.config.Shards, n) // New has seen all that these three could refuse
	transfer, _ := queue.NewTransfer(x, c)
	alarms, _ := queue.NewAlarms(x, c)
	h.holds[n] = &hold{c: c, x: x, transfer: transfer, alarms: alarms}
	return api.OK
}

// fire does the first alarm that is due. One that means nothing any more goes like all others: those behind it have to get their turn.
func (h *Host) fire(o *hold, now int) api.Errno {
	alarm, due := o.alarms.Due(now)
	if !due {
		return api.ErrNone
	}
	if update, means := h.fired(o, alarm, now); means {
		if _, refusal := o.x.Commit(o.c, update); refusal != api.OK {
			return refusal
		}
	}
	return o.alarms.Finish(alarm.ID)
}

// fired is the update that an alarm is; false, if it means nothing any more.
func (h *Host) fired(o *hold, alarm api.Task, now int) (api.Update, bool) {
	state, there := o.x.Load(alarm.Flow)
	def, defined := h.definition(state.Def)
	if !there || !defined {
		return api.Update{}, false
	}
	update, refusal := step(def, alarm.Flow, state, api.Input{Kind: api.InFire, Node: alarm.Node, Try: alarm.Try, Now: now})
	return update, refusal == api.OK
}

// definition is the one of a name.
func (h *Host) definition(name string) (api.Def, bool) {
	i := slices.IndexFunc(h.config.Defs, func(d api.Def) bool { return d.Name == name })
	if i < 0 {
		return api.Def{}, false
	}
	return h.config.Defs[i], true
}

// step is the update that an input makes of a workflow.
func step(def api.Def, flow string, state api.State, in api.Input) (api.Update, api.Errno) {
	events, next, tasks, refusal := history.Step(def, state, in)
	if refusal != api.OK {
		return api.Update{}, refusal
	}
	return api.Update{Flow: flow, Expect: state.Events, Events: events, State: next, Tasks: tasks}, api.OK
}

// mail sends the first envelope to a shard.
func (h *Host) mail(o *hold, to int) ([]api.Parcel, api.Errno) {
	if !h.isShard(to) {
		return nil, api.ErrArg
	}
	e, some := xshard.Next(o.x, to)
	if !some {
		return nil, api.ErrNone
	}
	parcels := h.sent(e)
	if len(parcels) == 0 {
		return nil, api.ErrNone
	}
	return parcels, api.OK
}

// sent is an envelope on its way to the host for its shard; none, if nobody is.
func (h *Host) sent(e api.Envelope) []api.Parcel {
	to, some := h.For(e.To)
	raw, refusal := codec.Envelope(e)
	if !some || refusal != api.OK {
		return nil
	}
	return []api.Parcel{{From: h.number, To: to, Bytes: raw}}
}

// Handle takes a parcel.
func (h *Host) Handle(p api.Parcel, now int) []api.Parcel {
	e, _, refusal := codec.ReadEnvelope(p.Bytes)
	if refusal != api.OK {
		return nil
	}
	o := h.held(e.To)
	if o == nil {
		return nil
	}
	switch e.Kind {
	case api.EnvMail:
		if ack, refusal := xshard.Receive(o.x, o.c, h.config.Defs, e, now); refusal == api.OK {
			return h.sent(ack)
		}
	case api.EnvAck:
		xshard.Collect(o.x, o.c, e) // what it refuses nobody is told: the envelope is sent again
	}
	return nil
}
