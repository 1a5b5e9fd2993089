package host

import (
	"strconv"

	"tiller/api"
	"tiller/dag"
	"tiller/front"
)

// poll gives out an activity of a queue, and tells its shard, or the one of which the refusal is.
func (h *Host) poll(queue string, now int) (string, int, api.Errno) {
	for n, o := range h.open() {
		for task := range o.transfer.All() {
			def, state, node, ready := h.ready(o, task)
			if !ready {
				o.transfer.Finish(task.ID) // what nobody may do any more would keep all behind it in the store
				continue
			}
			if def.Nodes[node].Arg != queue {
				continue
			}
			if refusal := o.take(def, state, task, now); refusal != api.OK {
				return "", n, refusal
			}
			o.transfer.Finish(task.ID)
			return given(task), n, api.OK
		}
	}
	return "", 0, api.ErrNone
}

// ready is a task's workflow as it stands, and the number of its node; false, if the task is stale.
func (h *Host) ready(o *hold, task api.Task) (api.Def, api.State, int, bool) {
	state, there := o.x.Load(task.Flow)
	def, defined := h.definition(state.Def)
	node, found := dag.Find(def, task.Node)
	if !there || !defined || state.Status != api.Running || !found || node >= len(state.Nodes) {
		return api.Def{}, api.State{}, 0, false
	}
	stands := state.Nodes[node]
	return def, state, node, stands.Status == api.Ready && stands.Try+1 == task.Try
}

// take lets an activity begin.
func (o *hold) take(def api.Def, state api.State, task api.Task, now int) api.Errno {
	update, refusal := step(def, task.Flow, state, api.Input{Kind: api.InTake, Node: task.Node, Now: now})
	if refusal == api.OK {
		_, refusal = o.x.Commit(o.c, update)
	}
	return refusal
}

// given tells whoever polls what to do.
func given(task api.Task) string {
	return `{"flow":` + front.Quote(task.Flow) + `,"node":` + front.Quote(task.Node) + `,"try":` + strconv.Itoa(task.Try) + `}`
}
