package history

import (
	"slices"

	"tiller/api"
	"tiller/dag"
)

const (
	timeout = "timeout" // is how a try fails that took too long
	long    = "long"    // is how a child fails whose name would be
)

// run is a workflow while it does an input: the state so far, and what has been told.
type run struct {
	def    api.Def
	state  api.State
	now    int
	events []api.Event
	tasks  []api.Task
}

// Step is what an input makes of a workflow.
func Step(d api.Def, s api.State, in api.Input) (events []api.Event, next api.State, tasks []api.Task, e api.Errno) {
	r := &run{def: d, state: stateCopy(s), now: in.Now}
	if e := r.do(in); e != api.OK {
		return nil, api.State{}, nil, e
	}
	return r.events, r.state, r.tasks, api.OK
}

// do does an input, or refuses it ahead of the first event.
func (r *run) do(in api.Input) api.Errno {
	switch {
	case in.Kind == api.InStart:
		return r.start(in)
	case r.state.Status == 0:
		return api.ErrNone
	case r.state.Status != api.Running:
		return api.ErrClosed
	}
	switch in.Kind {
	case api.InSignal:
		return r.signal(in)
	case api.InTake:
		return r.take(in)
	case api.InComplete:
		return r.complete(in)
	case api.InFail:
		return r.fail(in)
	case api.InFire:
		return r.fire(in)
	case api.InChild:
		return r.child(in)
	case api.InCancel:
		return r.cancel(in)
	}
	return api.ErrArg
}

// tell makes an event happen, and with it the tasks that it brings. One that doesn't fit is not told: that comes from definitions and states that are not right, and from no others.
func (r *run) tell(e api.Event, tasks ...api.Task) {
	if !change(r.def, &r.state, e) {
		return
	}
	r.events = append(r.events, e)
	for _, t := range tasks {
		t.Flow = r.state.ID
		r.tasks = append(r.tasks, t)
	}
}

// message is the task of sending a mail.
func (r *run) message(m api.Mail) api.Task {
	m.From = r.state.ID
	return api.Task{Kind: api.Message, Mail: m}
}

func (r *run) start(in api.Input) api.Errno {
	if r.state.Status != 0 {
		return api.ErrThere
	}
	r.state.ID = in.Name
	r.tell(api.Event{Kind: api.Started, Node: in.ParentNode, Text: in.Parent})
	r.goOn()
	return api.OK
}

func (r *run) signal(in api.Input) api.Errno {
	if !dag.Name(in.Name) {
		return api.ErrName
	}
	if len(in.Text) > api.MaxText {
		return api.ErrLarge
	}
	if wait, there := r.busyWait(in.Name); there {
		r.tell(api.Event{Kind: api.Received, Node: wait, Text: in.Text})
		r.goOn()
		return api.OK
	}
	if len(r.state.Signals) >= api.MaxSignals {
		return api.ErrFull
	}
	r.tell(api.Event{Kind: api.Kept, Node: in.Name, Text: in.Text})
	return api.OK
}

// busyWait is the first Wait that waits for a signal.
func (r *run) busyWait(signal string) (string, bool) {
	for i := range both(r.def, r.state) {
		n := r.def.Nodes[i]
		if n.Kind == api.Wait && n.Arg == signal && r.state.Nodes[i].Status == api.Busy {
			return n.Name, true
		}
	}
	return "", false
}

func (r *run) take(in api.Input) api.Errno {
	i, there := r.find(in.Node, api.Activity)
	if !there {
		return api.ErrNone
	}
	if r.state.Nodes[i].Status != api.Ready {
		return api.ErrState
	}
	try := r.state.Nodes[i].Try + 1
	var alarm []api.Task
	if delay := r.def.Nodes[i].Delay; delay > 0 {
		alarm = append(alarm, api.Task{Kind: api.Alarm, Node: in.Node, Try: try, At: r.now + delay})
	}
	r.tell(api.Event{Kind: api.Taken, Node: in.Node, Number: try}, alarm...)
	return api.OK
}

func (r *run) complete(in api.Input) api.Errno {
	_, e := r.busy(in, api.Activity)
	if e != api.OK {
		return e
	}
	if len(in.Text) > api.MaxText {
		return api.ErrLarge
	}
	r.tell(api.Event{Kind: api.Completed, Node: in.Node, Text: in.Text})
	r.goOn()
	return api.OK
}

func (r *run) fail(in api.Input) api.Errno {
	i, e := r.busy(in, api.Activity)
	if e != api.OK {
		return e
	}
	if len(in.Text) > api.MaxText {
		return api.ErrLarge
	}
	r.failTry(i, in.Text)
	return api.OK
}

func (r *run) fire(in api.Input) api.Errno {
	i, e := r.busy(in, api.Activity, api.Timer)
	if e != api.OK {
		return e
	}
	if r.def.Nodes[i].Kind == api.Activity {
		r.failTry(i, timeout)
		return api.OK
	}
	r.tell(api.Event{Kind: api.Fired, Node: in.Node})
	r.goOn()
	return api.OK
}

func (r *run) child(in api.Input) api.Errno {
	_, e := r.busy(in, api.Child)
	if e != api.OK {
		return e
	}
	if in.Status != api.Done {
		r.breakAt(in.Node, in.Text)
		return api.OK
	}
	r.tell(api.Event{Kind: api.ChildDone, Node: in.Node, Text: in.Text})
	r.goOn()
	return api.OK
}

func (r *run) cancel(in api.Input) api.Errno {
	if len(in.Text) > api.MaxText {
		return api.ErrLarge
	}
	r.end(api.Canceled, in.Text)
	return api.OK
}

// find is the number of a node of one of the kinds.
func (r *run) find(name string, kinds ...int) (int, bool) {
	i, there := find(r.def, r.state, name)
	return i, there && slices.Contains(kinds, r.def.Nodes[i].Kind)
}

// busy is the number of the Busy node, of one of the kinds, whose doing an input ends. Of an activity it must be that very try: an earlier one is over.
func (r *run) busy(in api.Input, kinds ...int) (int, api.Errno) {
	i, there := r.find(in.Node, kinds...)
	if !there {
		return 0, api.ErrNone
	}
	n := r.state.Nodes[i]
	if n.Status != api.Busy || r.def.Nodes[i].Kind == api.Activity && n.Try != in.Try {
		return 0, api.ErrState
	}
	return i, api.OK
}

// failTry ends a try of an activity: there is another one, or the workflow breaks.
func (r *run) failTry(i int, text string) {
	n, try := r.def.Nodes[i], r.state.Nodes[i].Try
	if try >= n.Tries {
		r.breakAt(n.Name, text)
		return
	}
	again := api.Task{Kind: api.Dispatch, Node: n.Name, Try: try + 1}
	r.tell(api.Event{Kind: api.Retried, Node: n.Name, Text: text, Number: try}, again)
}
