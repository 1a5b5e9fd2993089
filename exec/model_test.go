package exec_test

import (
	"cmp"
	"fmt"
	"iter"
	"maps"
	"slices"
	"strings"

	"tiller/api"
	"tiller/codec"
	"tiller/dag"
	"tiller/exec"
	"tiller/ring"
)

// teller tells all that a shard has: an Exec does, and the model beside it.
type teller interface {
	Load(flow string) (api.State, bool)
	Events(flow string) []api.Event
	Flows() []string
	Dispatches() []api.Task
	Alarms() []api.Task
	Outbox(to int) []api.Envelope
	Last(to int) int
	Mark(from int) int
	Level() api.ID
	Answer(flow, request string) (string, bool)
	All() iter.Seq2[string, api.State]
}

var (
	_ teller = (*exec.Exec)(nil)
	_ teller = model{}
)

// told is all that a teller tells, in lines; answers of these requests.
func told(x teller, requests ...string) string {
	var out strings.Builder
	line := func(what ...any) { fmt.Fprintln(&out, what...) }
	for _, flow := range x.Flows() {
		s, there := x.Load(flow)
		line("flow", flow, there, fmt.Sprintf("%+q", fmt.Sprintf("%+v", s)), fmt.Sprintf("%+v", x.Events(flow)))
		for _, request := range requests {
			if answer, known := x.Answer(flow, request); known || answer != "" {
				line("answer", flow, request, answer, known)
			}
		}
	}
	for flow, s := range x.All() {
		line("all", flow, fmt.Sprintf("%+q", fmt.Sprintf("%+v", s)))
	}
	for _, task := range x.Dispatches() {
		line("dispatch", fmt.Sprintf("%+v", task))
	}
	for _, task := range x.Alarms() {
		line("alarm", fmt.Sprintf("%+v", task))
	}
	for n := -1; n <= api.MaxShards; n++ {
		line("shard", n, x.Last(n), x.Mark(n), fmt.Sprintf("%+v", x.Outbox(n)))
	}
	line("level", x.Level())
	return out.String()
}

// asked is a request and its answer.
type asked struct{ request, answer string }

// flow is what a model has of a workflow. Its lists are never changed in place.
type flow struct {
	state    api.State
	events   []api.Event
	requests []asked // the oldest first
}

// model is what a shard has, as the chapter says it. Its calls tell the shard behind them; the one that they are called on stays as it was.
type model struct {
	shards, shard int
	flows         map[string]flow
	dispatches    []api.Task
	alarms        []api.Task
	level         api.ID
	boxes         [api.MaxShards][]api.Envelope
	last, mark    [api.MaxShards]int
}

func (m model) has(n int) bool { return n >= 0 && n < m.shards }

func (m model) Load(name string) (api.State, bool) {
	f, there := m.flows[name]
	return f.state, there
}

func (m model) Events(name string) []api.Event { return m.flows[name].events }

func (m model) Flows() []string { return slices.Sorted(maps.Keys(m.flows)) }

// byID tells the order of IDs by their parts.
func byID(a, b api.ID) int {
	return cmp.Or(cmp.Compare(real(a), real(b)), cmp.Compare(imag(a), imag(b)))
}

func (m model) Dispatches() []api.Task {
	return slices.SortedFunc(slices.Values(m.dispatches), func(a, b api.Task) int { return byID(a.ID, b.ID) })
}

func (m model) Alarms() []api.Task {
	return slices.SortedFunc(slices.Values(m.alarms), func(a, b api.Task) int {
		return cmp.Or(cmp.Compare(a.At, b.At), byID(a.ID, b.ID))
	})
}

func (m model) Outbox(to int) []api.Envelope {
	if !m.has(to) {
		return nil
	}
	return m.boxes[to]
}

func (m model) Last(to int) int {
	if !m.has(to) {
		return 0
	}
	return m.last[to]
}

func (m model) Mark(from int) int {
	if !m.has(from) {
		return 0
	}
	return m.mark[from]
}

func (m model) Level() api.ID { return m.level }

func (m model) Answer(name, request string) (string, bool) {
	for _, a := range m.flows[name].requests {
		if a.request == request {
			return a.answer, true
		}
	}
	return "", false
}

func (m model) All() iter.Seq2[string, api.State] {
	return func(yield func(string, api.State) bool) {
		for _, name := range m.Flows() {
			if !yield(name, m.flows[name].state) {
				return
			}
		}
	}
}

// weight is how many bytes all records of an update have, by codec; false, if it refuses one.
func weight(u api.Update) (int, bool) {
	raw, e := codec.State(u.State)
	sum, right := len(raw), e == api.OK
	for _, x := range u.Events {
		raw, e := codec.Event(x)
		sum, right = sum+len(raw), right && e == api.OK
	}
	for _, x := range u.Tasks {
		raw, e := codec.Task(x)
		sum, right = sum+len(raw), right && e == api.OK
	}
	return sum, right
}

// refuses is why an update is refused, whoever holds the shard.
func (m model) refuses(u api.Update) api.Errno {
	was, there := m.flows[u.Flow]
	switch {
	case !dag.Flow(u.Flow), ring.Shard(u.Flow, m.shards) != m.shard:
		return api.ErrName
	case len(was.events) != u.Expect, u.State.Events != u.Expect+len(u.Events):
		return api.ErrOrder
	case u.Seq > 0 && u.Seq != m.Mark(u.Source)+1:
		return api.ErrOrder
	case u.Seq > 0 && !m.has(u.Source), len(u.Request) > 256:
		return api.ErrArg
	case !there && len(m.flows) == 256:
		return api.ErrFull
	}
	bytes, right := weight(u)
	for _, task := range u.Tasks {
		right = right && (task.Kind != api.Message || dag.Flow(task.Mail.To))
	}
	if !right || bytes > 65000 || len(u.Answer) > 4096 {
		return api.ErrForm
	}
	return api.OK
}

// committed is the shard behind an update that is not refused, and the tasks; IDs are of that range, behind so many.
func (m model) committed(u api.Update, number, made int) (model, []api.Task) {
	was := m.flows[u.Flow]
	now := flow{u.State, slices.Concat(was.events, u.Events), was.requests}
	if u.Request != "" {
		now.requests = nil
		for _, a := range was.requests {
			if a.request != u.Request {
				now.requests = append(now.requests, a)
			}
		}
		now.requests = append(now.requests, asked{u.Request, u.Answer})
		now.requests = now.requests[max(0, len(now.requests)-64):]
	}
	m.flows = maps.Clone(m.flows)
	m.flows[u.Flow] = now
	var tasks []api.Task
	for _, task := range u.Tasks {
		if task.Kind == api.Message {
			m = m.with(task.Mail)
		} else {
			made++
			task.ID = api.ID(complex(float64(number), float64(made)))
		}
		if task.Kind == api.Dispatch {
			m.dispatches = slices.Concat(m.dispatches, []api.Task{task})
		}
		if task.Kind == api.Alarm {
			m.alarms = slices.Concat(m.alarms, []api.Task{task})
		}
		tasks = append(tasks, task)
	}
	if u.Seq > 0 {
		m.mark[u.Source] = u.Seq
	}
	return m, tasks
}

// with is the shard with a mail in its outbox.
func (m model) with(mail api.Mail) model {
	to := ring.Shard(mail.To, m.shards)
	m.last[to]++
	e := api.Envelope{Kind: api.EnvMail, From: m.shard, To: to, Seq: m.last[to], Mail: mail}
	m.boxes[to] = slices.Concat(m.boxes[to], []api.Envelope{e})
	return m
}

// isID says whether codec takes an ID.
func isID(id api.ID) bool { return codec.IDKey(id) != "" }

// advanced is the shard behind an Advance, how many dispatches are gone, and whether anything is to be committed.
func (m model) advanced(level api.ID) (model, int, bool) {
	if !isID(level) || byID(m.level, level) >= 0 {
		return m, 0, false
	}
	was := len(m.dispatches)
	m.dispatches = slices.DeleteFunc(slices.Clone(m.dispatches), func(t api.Task) bool { return byID(t.ID, level) <= 0 })
	m.level = level
	return m, was - len(m.dispatches), true
}

// dropped is the shard behind a Drop; false, if there is no such alarm.
func (m model) dropped(id api.ID) (model, bool) {
	was := len(m.alarms)
	m.alarms = slices.DeleteFunc(slices.Clone(m.alarms), func(t api.Task) bool { return t.ID == id })
	return m, len(m.alarms) < was
}

// acked is the shard behind an Acked, and how many envelopes are gone.
func (m model) acked(to, seq int) (model, int, api.Errno) {
	if !m.has(to) || seq > m.last[to] {
		return m, 0, api.ErrArg
	}
	was := len(m.boxes[to])
	m.boxes[to] = slices.DeleteFunc(slices.Clone(m.boxes[to]), func(e api.Envelope) bool { return e.Seq <= seq })
	return m, was - len(m.boxes[to]), api.OK
}

// passed is the shard behind a Pass.
func (m model) passed(from, seq int, back []api.Mail) (model, api.Errno) {
	if !m.has(from) {
		return m, api.ErrArg
	}
	if seq != m.mark[from]+1 {
		return m, api.ErrOrder
	}
	sum := 0
	for _, mail := range back {
		raw, e := codec.Envelope(api.Envelope{Kind: api.EnvMail, Mail: mail})
		sum += len(raw)
		if e != api.OK || !dag.Flow(mail.To) {
			return m, api.ErrForm
		}
	}
	if sum > 65000 {
		return m, api.ErrForm
	}
	for _, mail := range back {
		m = m.with(mail)
	}
	m.mark[from] = seq
	return m, api.OK
}
