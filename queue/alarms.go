package queue

import (
	"tiller/api"
	"tiller/exec"
	"tiller/shard"
)

// Alarms are a shard's alarms. It has nothing of its own: each call asks the store.
type Alarms struct {
	x *exec.Exec
	c *shard.Ctx
}

// NewAlarms makes them.
func NewAlarms(x *exec.Exec, c *shard.Ctx) (*Alarms, api.Errno) {
	if x == nil || c == nil {
		return nil, api.ErrArg
	}
	return &Alarms{x: x, c: c}, api.OK
}

// first is the one that is due first, if there is any.
func (a *Alarms) first() (api.Task, bool) {
	list := a.x.Alarms()
	if len(list) == 0 {
		return api.Task{}, false
	}
	return list[0], true
}

// Due is the first alarm that is due.
func (a *Alarms) Due(now int) (api.Task, bool) {
	task, some := a.first()
	if !some || task.At > now {
		return api.Task{}, false
	}
	return task, true
}

// Finish takes an alarm away.
func (a *Alarms) Finish(id api.ID) api.Errno {
	return a.x.Drop(a.c, id)
}

// Next is when the next alarm is due.
func (a *Alarms) Next() (int, bool) {
	task, some := a.first()
	return task.At, some
}
