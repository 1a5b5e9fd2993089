package history

import (
	"slices"

	"tiller/api"
	"tiller/dag"
)

// anyKind stands for all kinds of nodes.
const anyKind = 0

// move is what an event does to its node: one of that kind goes from one status to another, and perhaps takes the event's text.
type move struct {
	event, kind, from, to int
	text                  bool
}

// moves are all that may become of nodes.
var moves = [...]move{
	{api.Scheduled, api.Activity, api.Idle, api.Ready, false},
	{api.Taken, api.Activity, api.Ready, api.Busy, false},
	{api.Retried, api.Activity, api.Busy, api.Ready, false},
	{api.Completed, api.Activity, api.Busy, api.Over, true},
	{api.Failed, anyKind, api.Busy, api.Bad, true},
	{api.Failed, api.Child, api.Idle, api.Bad, true},
	{api.TimerSet, api.Timer, api.Idle, api.Busy, false},
	{api.Fired, api.Timer, api.Busy, api.Over, false},
	{api.ChildAsked, api.Child, api.Idle, api.Busy, false},
	{api.ChildDone, api.Child, api.Busy, api.Over, true},
	{api.Awaited, api.Wait, api.Idle, api.Busy, false},
	{api.Received, api.Wait, api.Busy, api.Over, true},
	{api.Received, api.Wait, api.Idle, api.Over, true},
	{api.Sent, api.Send, api.Idle, api.Over, false},
}

// Apply is the state behind an event.
func Apply(d api.Def, s api.State, e api.Event) (api.State, api.Errno) {
	next := stateCopy(s)
	if !change(d, &next, e) {
		return next, api.ErrState
	}
	return next, api.OK
}

// change makes a state the one behind an event, if the event fits; else it leaves the state as it is. The state's lists are its own.
func change(d api.Def, s *api.State, e api.Event) bool {
	needs := api.Running
	if e.Kind == api.Started {
		needs = 0
	}
	if s.Status != needs {
		return false
	}
	fits := true
	switch e.Kind {
	case api.Started:
		s.Status, s.Def, s.Parent, s.ParentNode = api.Running, d.Name, e.Text, e.Node
		s.Nodes = make([]api.NodeState, len(d.Nodes))
	case api.Kept:
		s.Signals = append(s.Signals, api.Signal{Name: e.Node, Text: e.Text})
	case api.Closed:
		fits = e.Number == api.Done || e.Number == api.Broken || e.Number == api.Canceled
		if fits {
			s.Status, s.Text = e.Number, e.Text
		}
	default:
		fits = changeNode(d, s, e)
	}
	if fits {
		s.Events++
	}
	return fits
}

// changeNode is change for the events of a node.
func changeNode(d api.Def, s *api.State, e api.Event) bool {
	i, there := find(d, *s, e.Node)
	if !there {
		return false
	}
	m, there := moveOf(e.Kind, d.Nodes[i].Kind, s.Nodes[i].Status)
	if !there || e.Kind == api.Received && !receive(s, d.Nodes[i].Arg, m.from, e.Number) {
		return false
	}
	node := &s.Nodes[i]
	node.Status = m.to
	if m.text {
		node.Text = e.Text
	}
	if e.Kind == api.Taken {
		node.Try = e.Number
	}
	return true
}

// find is a node's number, if the state has it, too.
func find(d api.Def, s api.State, name string) (int, bool) {
	i, there := dag.Find(d, name)
	return i, there && i < len(s.Nodes)
}

// moveOf is what an event does to a node of that kind and status, if it fits.
func moveOf(event, kind, status int) (move, bool) {
	for _, m := range moves {
		if m.event == event && m.from == status && (m.kind == kind || m.kind == anyKind) {
			return m, true
		}
	}
	return move{}, false
}

// receive says whether a Wait can get its signal: a Busy one gets one that has just come (0), an Idle one the first that is kept (1), which is kept no more.
func receive(s *api.State, signal string, status, number int) bool {
	if status == api.Busy {
		return number == 0
	}
	at := kept(*s, signal)
	if number != 1 || at < 0 {
		return false
	}
	s.Signals = append(listCopy(s.Signals[:at]), s.Signals[at+1:]...)
	return true
}

// kept is the place of the first signal of a name that is kept, or -1.
func kept(s api.State, signal string) int {
	return slices.IndexFunc(s.Signals, func(k api.Signal) bool { return k.Name == signal })
}
