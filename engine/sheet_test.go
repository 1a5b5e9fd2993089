package engine_test

import (
	"fmt"
	"maps"
	"slices"
	"strings"

	"tiller/api"
	"tiller/dag"
	"tiller/front"
	"tiller/history"
	"tiller/ring"
)

// sheet is one table of workflows, in which requests, mails and alarms take effect one after another. It knows no hosts, no disks, no net; of shards it knows only between which of them a mail goes.
type sheet struct {
	c      api.Config
	rows   map[string]row
	sent   map[[2]int][]api.Mail // all mails ever, by shards, in their order
	taken  map[[2]int]int        // how many of these have had their effect
	alarms []string              // rising
}

// row is a workflow. Nothing in it is ever changed, so sheets may share it.
type row struct {
	state   api.State
	events  []api.Event
	names   []string // the requests that it remembers, the latest last
	answers []string
}

// effect is one thing that takes effect: an input to a workflow, an alarm, or (mail) the next mail from a shard to another.
type effect struct {
	flow    string
	def     string // of a start
	in      api.Input
	request string
	alarm   string
	mail    bool
	between [2]int
	now     int
}

func newSheet(c api.Config) *sheet {
	return &sheet{c: c, rows: map[string]row{}, sent: map[[2]int][]api.Mail{}, taken: map[[2]int]int{}}
}

func (s *sheet) clone() *sheet {
	return &sheet{c: s.c, rows: maps.Clone(s.rows), sent: maps.Clone(s.sent), taken: maps.Clone(s.taken), alarms: s.alarms}
}

func (s *sheet) shard(flow string) int { return ring.Shard(flow, s.c.Shards) }

func (s *sheet) def(name string) (api.Def, bool) {
	for _, d := range s.c.Defs {
		if d.Name == name {
			return d, true
		}
	}
	return api.Def{}, false
}

// full says whether a workflow more is too many.
func (s *sheet) full(flow string) bool {
	many := 0
	for other := range s.rows {
		if s.shard(other) == s.shard(flow) {
			many++
		}
	}
	return many >= api.MaxFlows
}

// step is what an input makes of a workflow.
func (s *sheet) step(e effect) ([]api.Event, api.State, []api.Task, api.Errno) {
	r, there := s.rows[e.flow]
	name := r.state.Def
	if e.in.Kind == api.InStart {
		name = e.def
	}
	d, known := s.def(name)
	if !known || !there && e.in.Kind != api.InStart {
		return nil, api.State{}, nil, api.ErrNone
	}
	events, next, tasks, refusal := history.Step(d, r.state, e.in)
	if refusal == api.OK && !there && s.full(e.flow) {
		return nil, api.State{}, nil, api.ErrFull
	}
	return events, next, tasks, refusal
}

// post puts a mail on its way.
func (s *sheet) post(from int, m api.Mail) {
	at := [2]int{from, s.shard(m.To)}
	s.sent[at] = append(slices.Clip(s.sent[at]), m)
}

// apply lets something take effect; what history refuses has none.
func (s *sheet) apply(e effect) {
	if e.mail {
		e = s.opened(e)
	}
	if i := slices.Index(s.alarms, e.alarm); i >= 0 {
		s.alarms = slices.Delete(slices.Clone(s.alarms), i, i+1)
	}
	events, next, tasks, refusal := s.step(e)
	if refusal != api.OK {
		return
	}
	r := s.rows[e.flow]
	r.state, r.events = next, append(slices.Clip(r.events), events...)
	if e.request != "" {
		r = r.answered(e.request, answerOf(next))
	}
	s.rows[e.flow] = r
	for _, t := range tasks {
		switch t.Kind {
		case api.Alarm:
			s.alarms = append(slices.Clip(s.alarms), alarmName(t))
			slices.Sort(s.alarms)
		case api.Message:
			s.post(s.shard(e.flow), t.Mail)
		}
	}
}

// opened takes the next mail between two shards: the effect that it is. Who asked for what can't be had is told.
func (s *sheet) opened(e effect) effect {
	m := s.sent[e.between][s.taken[e.between]]
	s.taken[e.between]++
	in := api.Input{Now: e.now, Text: m.Text}
	switch m.Kind {
	case api.MailStart:
		in.Kind, in.Name, in.Parent, in.ParentNode, in.Text = api.InStart, m.To, m.From, m.Node, ""
		_, there := s.rows[m.To]
		_, known := s.def(m.Name)
		why := "none"
		if known {
			why = "full"
		}
		if !there && (!known || s.full(m.To)) {
			s.post(e.between[1], api.Mail{Kind: api.MailChild, To: m.From, From: m.To, Node: m.Node, Status: api.Broken, Text: why})
		}
	case api.MailChild:
		in.Kind, in.Node, in.Status = api.InChild, m.Node, m.Status
	case api.MailSignal:
		in.Kind, in.Name = api.InSignal, m.Name
	case api.MailCancel:
		in.Kind = api.InCancel
	}
	return effect{flow: m.To, def: m.Name, in: in}
}

// answered is a row that remembers a request.
func (r row) answered(name, answer string) row {
	names, answers := slices.Clone(r.names), slices.Clone(r.answers)
	if i := slices.Index(names, name); i >= 0 {
		names, answers = slices.Delete(names, i, i+1), slices.Delete(answers, i, i+1)
	}
	r.names, r.answers = append(names, name), append(answers, answer)
	if over := len(r.names) - api.MaxIDs; over > 0 {
		r.names, r.answers = r.names[over:], r.answers[over:]
	}
	return r
}

// answer is a request's answer that the row remembers.
func (r row) answer(name string) (string, bool) {
	if i := slices.Index(r.names, name); name != "" && i >= 0 {
		return r.answers[i], true
	}
	return "", false
}

func answerOf(s api.State) string { return fmt.Sprintf(`{"events":%d}`, s.Events) }

// alarmName is an alarm without its ID.
func alarmName(t api.Task) string { return fmt.Sprint(t.At, " ", t.Flow, " ", t.Node, " ", t.Try) }

// said is what a request must be answered.
type said struct {
	status int
	body   string
	wrong  bool    // it is refused whoever is asked
	does   *effect // what it does, if it does something
}

func refuses(e api.Errno) said {
	status, body := front.Error(e)
	return said{status: status, body: body}
}

// wrong is a refusal of a request that is no right one.
func wrong(e api.Errno) said {
	w := refuses(e)
	w.wrong = true
	return w
}

// kinds are the inputs of the paths.
func kinds() map[string]int {
	return map[string]int{"/start": api.InStart, "/signal": api.InSignal, "/complete": api.InComplete, "/fail": api.InFail, "/cancel": api.InCancel}
}

// asked is what the table answers to a request that is about a workflow.
func (s *sheet) asked(path, body string, now int) (string, said) {
	where, behind, _ := strings.Cut(path, "?")
	kind, posted := kinds()[where]
	if where == "/query" {
		flow, is := strings.CutPrefix(behind, "flow=")
		return flow, s.query(flow, is)
	}
	if !posted {
		return "", wrong(api.ErrNone)
	}
	l, _, e := front.Object(body)
	if e != api.OK {
		return "", wrong(api.ErrForm)
	}
	in, request, def, flow, right := readInput(kind, l, now)
	switch {
	case !right:
		return "", wrong(api.ErrArg)
	case !dag.Flow(flow):
		return "", wrong(api.ErrName)
	case len(request) > api.MaxText:
		return "", wrong(api.ErrLarge)
	}
	if answer, known := s.rows[flow].answer(request); known {
		return flow, said{status: 200, body: answer}
	}
	does := effect{flow: flow, def: def, in: in, request: request}
	_, next, _, refusal := s.step(does)
	if refusal != api.OK {
		return flow, refuses(refusal)
	}
	return flow, said{status: 200, body: answerOf(next), does: &does}
}

func (s *sheet) query(flow string, is bool) said {
	if !is {
		return wrong(api.ErrArg)
	}
	if !dag.Flow(flow) {
		return wrong(api.ErrName)
	}
	r, there := s.rows[flow]
	d, known := s.def(r.state.Def)
	if !there || !known {
		return refuses(api.ErrNone)
	}
	return said{status: 200, body: front.State(d, r.state)}
}

// readInput is the input that a body is; false, if a field lacks or is of the other kind.
func readInput(kind int, l []api.Pair, now int) (in api.Input, request, def, flow string, right bool) {
	right = true
	text := func(name string, must bool) string {
		_, there := front.Field(l, name)
		v, is := front.Text(l, name)
		right = right && (is || !there && !must)
		return v
	}
	in = api.Input{Kind: kind, Now: now}
	flow, request = text("flow", true), text("request", false)
	switch kind {
	case api.InStart:
		in.Name, def = flow, text("def", true)
		return
	case api.InSignal:
		in.Name = text("name", true)
	case api.InComplete, api.InFail:
		in.Node = text("node", true)
		try, is := front.Int(l, "try")
		in.Try, right = try, right && is
	}
	in.Text = text("text", false)
	return
}
