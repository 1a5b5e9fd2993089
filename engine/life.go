package engine

import (
	"slices"

	"tiller/api"
	"tiller/codec"
	"tiller/dag"
	"tiller/exec"
	"tiller/host"
)

// life is a host from a start to its crash.
type life struct {
	*host.Host
	incarnation int
	cursors     []cursor // by shards
}

// cursor is how far a hold has loaded its shard's dispatches, as far as it was seen.
type cursor struct {
	hold int // its range, which no other hold of that shard has
	last api.ID
}

// look sees how far a shard's hold has loaded. A host doesn't tell its cursor. But what it loads is pending till a request finishes it: who looks behind each load, and ahead of each request, has seen the last that was loaded.
func (l *life) look(n int, x *exec.Exec) {
	hold, held := l.Range(n)
	if !held {
		return
	}
	if l.cursors[n].hold != hold {
		l.cursors[n] = cursor{hold: hold, last: x.Level()}
	}
	tasks := l.Pending(n)
	if len(tasks) > 0 && codec.Less(l.cursors[n].last, tasks[len(tasks)-1].ID) {
		l.cursors[n].last = tasks[len(tasks)-1].ID
	}
}

// settled says whether a host holds a shard, has loaded all its dispatches, and has nothing pending that is stale.
func (c *Cluster) settled(l *life, n int, x *exec.Exec) bool {
	if _, held := l.Range(n); !held {
		return false
	}
	l.look(n, x)
	behind := func(task api.Task) bool { return codec.Less(l.cursors[n].last, task.ID) }
	stale := func(task api.Task) bool { return c.stale(task, x) }
	return !slices.ContainsFunc(x.Dispatches(), behind) && !slices.ContainsFunc(l.Pending(n), stale)
}

// stale says whether nobody may do a task any more.
func (c *Cluster) stale(task api.Task, x *exec.Exec) bool {
	state, there := x.Load(task.Flow)
	i := slices.IndexFunc(c.config.Defs, func(d api.Def) bool { return d.Name == state.Def })
	if !there || i < 0 || state.Status != api.Running {
		return true
	}
	node, found := dag.Find(c.config.Defs[i], task.Node)
	if !found || node >= len(state.Nodes) {
		return true
	}
	stands := state.Nodes[node]
	return stands.Status != api.Ready || stands.Try+1 != task.Try
}
