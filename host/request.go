package host

import (
	"strconv"
	"strings"

	"tiller/api"
	"tiller/dag"
	"tiller/front"
	"tiller/ring"
)

const (
	post      = "POST"
	get       = "GET"
	flowMark  = "flow=" // ahead of the flow that a query is about
	taken     = 200
	elsewhere = 307
	noMethod  = 405
)

// errMethod is what a request with another method is refused by; api has no such error.
const errMethod = api.Errno(-1)

// form is what a path wants of a request.
type form struct {
	method string
	input  int      // the kind of input that it is; of a query none
	texts  []string // fields that have to be there
	try    bool     // so has try, a number
	free   []string // texts that may lack
}

// formOf is a path's form.
func formOf(path string) (form, bool) {
	both := []string{"text", "request"}
	switch path {
	case "/start":
		return form{method: post, input: api.InStart, texts: []string{"flow", "def"}, free: []string{"request"}}, true
	case "/signal":
		return form{method: post, input: api.InSignal, texts: []string{"flow", "name"}, free: both}, true
	case "/complete":
		return form{method: post, input: api.InComplete, texts: []string{"flow", "node"}, try: true, free: both}, true
	case "/fail":
		return form{method: post, input: api.InFail, texts: []string{"flow", "node"}, try: true, free: both}, true
	case "/cancel":
		return form{method: post, input: api.InCancel, texts: []string{"flow"}, free: both}, true
	case "/poll":
		return form{method: post, input: api.InTake, texts: []string{"queue"}}, true
	case "/query":
		return form{method: get, texts: []string{"flow"}}, true
	}
	return form{}, false
}

// fits says whether the fields are what the form wants.
func (f form) fits(fields []api.Pair) bool {
	for _, name := range f.texts {
		if _, is := front.Text(fields, name); !is {
			return false
		}
	}
	for _, name := range f.free {
		_, there := front.Field(fields, name)
		if _, is := front.Text(fields, name); there && !is {
			return false
		}
	}
	_, is := front.Int(fields, "try")
	return is || !f.try
}

// ask is what a request asks for.
type ask struct {
	form   form
	fields []api.Pair
}

// text is a field; empty, if it lacks.
func (a ask) text(name string) string {
	text, _ := front.Text(a.fields, name)
	return text
}

// input is the input that it is.
func (a ask) input(now int) api.Input {
	in := api.Input{Kind: a.form.input, Now: now}
	switch in.Kind {
	case api.InStart:
		in.Name = a.text("flow")
	case api.InSignal:
		in.Name, in.Text = a.text("name"), a.text("text")
	case api.InComplete, api.InFail:
		in.Node, in.Text = a.text("node"), a.text("text")
		in.Try, _ = front.Int(a.fields, "try")
	case api.InCancel:
		in.Text = a.text("text")
	}
	return in
}

// read is what a request asks for by its form.
func read(f form, behind, body string) (ask, api.Errno) {
	a := ask{form: f}
	if f.method == get {
		a.fields = queryFields(behind)
	} else {
		fields, _, refusal := front.Object(body)
		if refusal != api.OK {
			return ask{}, api.ErrForm
		}
		a.fields = fields
	}
	switch {
	case !f.fits(a.fields):
		return ask{}, api.ErrArg
	case f.input == api.InTake: // it is about no workflow
		return a, api.OK
	case !dag.Flow(a.text("flow")):
		return ask{}, api.ErrName
	case len(a.text("request")) > api.MaxText:
		return ask{}, api.ErrLarge
	}
	return a, api.OK
}

// queryFields are the fields that stand behind a query's path, as front tells a body's.
func queryFields(behind string) []api.Pair {
	flow, there := strings.CutPrefix(behind, flowMark)
	if !there {
		return nil
	}
	return []api.Pair{{Key: "flow", Value: `"` + flow}}
}

// Request answers a request.
func (h *Host) Request(method, path, body string, now int) (int, string) {
	var a ask
	var n int // the shard that may be another host's
	var answer string
	var refusal api.Errno
	path, behind := front.Query(path)
	f, there := formOf(path)
	if !there {
		refusal = api.ErrNone
		goto refused
	}
	if method != f.method {
		refusal = errMethod
		goto refused
	}
	a, refusal = read(f, behind, body)
	if refusal != api.OK {
		goto refused
	}
	if f.input == api.InTake {
		answer, n, refusal = h.poll(a.text("queue"), now)
	} else {
		n = ring.Shard(a.text("flow"), h.config.Shards)
		answer, refusal = h.serve(n, a, now)
	}
	if refusal != api.OK {
		goto refused
	}
	return taken, answer
refused:
	switch refusal {
	case errMethod:
		return noMethod, `{"error":"method"}`
	case api.ErrOwner, api.ErrFence:
		return elsewhere, `{"error":"owner","host":` + h.nameOf(n) + `}`
	}
	return front.Error(refusal)
}

// nameOf is the host for a shard in digits; -1, if there is none.
func (h *Host) nameOf(n int) string {
	to, some := h.For(n)
	if !some {
		to = -1
	}
	return strconv.Itoa(to)
}

// serve answers a request that is about a workflow of a shard.
func (h *Host) serve(n int, a ask, now int) (string, api.Errno) {
	o := h.held(n)
	if o == nil {
		return "", api.ErrOwner
	}
	flow, request := a.text("flow"), a.text("request")
	if answer, known := o.x.Answer(flow, request); known && request != "" {
		return answer, api.OK
	}
	state, there := o.x.Load(flow)
	name := state.Def
	if a.form.input == api.InStart {
		name, there = a.text("def"), true // whether there is one already, that is Step's to say
	}
	def, defined := h.definition(name)
	if !there || !defined {
		return "", api.ErrNone
	}
	if a.form.method == get {
		return front.State(def, state), api.OK
	}
	update, refusal := step(def, flow, state, a.input(now))
	if refusal != api.OK {
		return "", refusal
	}
	update.Request, update.Answer = request, `{"events":`+strconv.Itoa(update.State.Events)+`}`
	_, refusal = o.x.Commit(o.c, update)
	return update.Answer, refusal
}
