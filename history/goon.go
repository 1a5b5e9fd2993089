package history

import (
	"tiller/api"
	"tiller/dag"
)

// goOn lets nodes begin, as long as some may. Which ones may changes only when one is over as soon as it has begun: then they are looked for anew.
func (r *run) goOn() {
again:
	for _, i := range dag.ReadyNodes(r.def, r.over(), r.begun()) {
		r.begin(r.def.Nodes[i])
		if r.state.Status != api.Running {
			return
		}
		if r.state.Nodes[i].Status == api.Over {
			goto again
		}
	}
	if imag(Count(r.state)) == 0 {
		r.end(api.Done, r.lastText())
	}
}

// over marks the nodes that are Over.
func (r *run) over() []bool {
	marks := make([]bool, len(r.state.Nodes))
	for i, n := range r.state.Nodes {
		marks[i] = n.Status == api.Over
	}
	return marks
}

// begun marks the nodes that can't begin any more, or that the state lacks.
func (r *run) begun() []bool {
	marks := make([]bool, len(r.def.Nodes))
	for i := range marks {
		marks[i] = i >= len(r.state.Nodes) || r.state.Nodes[i].Status != api.Idle
	}
	return marks
}

// lastText is what the last node came to.
func (r *run) lastText() string {
	last := len(r.state.Nodes) - 1
	if last < 0 {
		return ""
	}
	return r.state.Nodes[last].Text
}

// begin lets a node begin.
func (r *run) begin(n api.Node) {
	switch n.Kind {
	case api.Activity:
		r.tell(api.Event{Kind: api.Scheduled, Node: n.Name}, api.Task{Kind: api.Dispatch, Node: n.Name, Try: 1})
	case api.Timer:
		at := r.now + n.Delay
		r.tell(api.Event{Kind: api.TimerSet, Node: n.Name, Number: at}, api.Task{Kind: api.Alarm, Node: n.Name, At: at})
	case api.Child:
		r.beginChild(n)
	case api.Wait:
		r.beginWait(n)
	case api.Send:
		r.tell(api.Event{Kind: api.Sent, Node: n.Name}, r.message(api.Mail{Kind: api.MailSignal, To: n.To, Node: n.Name, Name: n.Arg}))
	}
}

func (r *run) beginChild(n api.Node) {
	if len(r.state.ID)+1+len(n.Name) > api.MaxText {
		r.breakAt(n.Name, long)
		return
	}
	ask := r.message(api.Mail{Kind: api.MailStart, To: r.childName(n.Name), Node: n.Name, Name: n.Arg})
	r.tell(api.Event{Kind: api.ChildAsked, Node: n.Name}, ask)
}

func (r *run) beginWait(n api.Node) {
	at := kept(r.state, n.Arg)
	if at < 0 {
		r.tell(api.Event{Kind: api.Awaited, Node: n.Name})
		return
	}
	r.tell(api.Event{Kind: api.Received, Node: n.Name, Text: r.state.Signals[at].Text, Number: 1})
}

// childName is the name of the workflow that a node asks for.
func (r *run) childName(node string) string {
	return r.state.ID + "/" + node
}

// breakAt closes the workflow by a node that failed.
func (r *run) breakAt(node, text string) {
	r.tell(api.Event{Kind: api.Failed, Node: node, Text: text})
	r.end(api.Broken, text)
}

// end closes the workflow: children that are under way need not go on, and who asked for it is told.
func (r *run) end(status int, text string) {
	var mails []api.Task
	for i := range both(r.def, r.state) {
		n := r.def.Nodes[i]
		if n.Kind == api.Child && r.state.Nodes[i].Status == api.Busy {
			mails = append(mails, r.message(api.Mail{Kind: api.MailCancel, To: r.childName(n.Name), Node: n.Name, Text: text}))
		}
	}
	if r.state.Parent != "" {
		mails = append(mails, r.message(api.Mail{Kind: api.MailChild, To: r.state.Parent, Node: r.state.ParentNode, Text: text, Status: status}))
	}
	r.tell(api.Event{Kind: api.Closed, Text: text, Number: status}, mails...)
}
