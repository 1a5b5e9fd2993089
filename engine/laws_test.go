package engine_test

import (
	"fmt"
	"slices"
	"strings"
	"testing"

	"tiller/api"
	"tiller/codec"
	"tiller/engine"
	"tiller/front"
)

// judge holds a cluster to the laws of the whole, entry by entry: W1 by a sheet, W2 by the ranges that it has seen, W3 by the sheet's mails, W4 by what was refused.
type judge struct {
	t      *testing.T
	x      *engine.Cluster
	s      *sheet
	maybe  map[int][]effect // by shards: what the disk refused since the last batch that was taken
	shaky  bool             // trouble may be waiting
	fences map[int]int
	owners map[[2]int]int // by shards and ranges: incarnations
	lives  map[int]int    // by incarnations: hosts
	story  []string
	met    map[string]int
}

func newJudge(t *testing.T, c api.Config, met map[string]int) *judge {
	x, _ := engine.New(c)
	return &judge{t: t, x: x, s: newSheet(c), maybe: map[int][]effect{}, fences: map[int]int{}, owners: map[[2]int]int{}, lives: map[int]int{}, met: met}
}

func (j *judge) fails(parts ...any) {
	j.t.Helper()
	j.t.Fatal(strings.Join(j.story, "\n"), "\n", fmt.Sprintln(parts...))
}

// differs says where the cluster is not as a sheet; empty, if it is.
func (j *judge) differs(s *sheet) string {
	if l := j.x.Flows(); len(l) != len(s.rows) {
		return fmt.Sprint("workflows: ", l)
	}
	for flow, r := range s.rows {
		state, _ := j.x.State(flow)
		if !alike(state, r.state) || !alike(j.x.Events(flow), r.events) {
			return fmt.Sprintln(flow, "is", state, j.x.Events(flow), "\nnot", r.state, r.events)
		}
		home := j.x.Exec(s.shard(flow))
		for i, name := range r.names {
			if answer, known := home.Answer(flow, name); !known || answer != r.answers[i] {
				return fmt.Sprintln(flow, name, "is", answer, "not", r.answers[i])
			}
		}
	}
	var alarms []string
	for n := range s.c.Shards {
		for _, t := range j.x.Exec(n).Alarms() {
			alarms = append(alarms, alarmName(t))
		}
		for to := range s.c.Shards {
			if why := j.strayed(s, [2]int{n, to}); why != "" {
				return why
			}
		}
	}
	slices.Sort(alarms)
	if !slices.Equal(alarms, s.alarms) {
		return fmt.Sprintln("alarms are", alarms, "not", s.alarms)
	}
	return ""
}

// strayed says what is wrong with the mails from a shard to another (W3): each that was sent waits, unless it has had its effect; none waits that was not sent.
func (j *judge) strayed(s *sheet, at [2]int) string {
	source, sent := j.x.Exec(at[0]), s.sent[at]
	l := source.Outbox(at[1])
	gone := len(sent) - len(l)
	if mark := j.x.Exec(at[1]).Mark(at[0]); mark != s.taken[at] || gone < 0 || gone > mark || source.Last(at[1]) != len(sent) {
		return fmt.Sprintln(at, "has the mark", mark, "not", s.taken[at], "and the outbox", l, "of", sent)
	}
	for i, e := range l {
		if e.Seq != gone+i+1 || e.Mail != sent[gone+i] {
			return fmt.Sprintln(at, "has the outbox", l, "of", sent)
		}
	}
	return ""
}

// settle finds out which of what may have become of an entry is so, and holds the sheet to it.
func (j *judge) settle(outcomes ...*sheet) {
	j.t.Helper()
	var why []string
	for _, s := range outcomes {
		d := j.differs(s)
		if d == "" {
			j.s = s
			return
		}
		why = append(why, d)
	}
	j.fails(why)
}

// with is the sheet behind an effect.
func (j *judge) with(e effect) *sheet {
	s := j.s.clone()
	s.apply(e)
	return s
}

// ranges judges W2: fences never fall, and no range is two incarnations'.
func (j *judge) ranges() {
	j.t.Helper()
	own := func(n, r, owner int) {
		at := [2]int{n, r}
		if was, known := j.owners[at]; owner >= 0 && known && was != owner {
			j.fails("shard", n, "range", r, "is of", was, "and of", owner)
		}
		if owner >= 0 {
			j.owners[at] = owner
		}
	}
	for i := range api.MaxHosts {
		h, number := j.x.Host(i), j.x.Incarnation(i)
		if (h == nil) != (number == 0) {
			j.fails("host", i, "has the incarnation", number)
		}
		if h == nil {
			continue
		}
		if was, known := j.lives[number]; known && was != i {
			j.fails("the incarnation", number, "comes again")
		}
		j.lives[number] = i
		for n, c := range h.All() {
			own(n, c.Range(), c.Owner())
			if c.Owner() != number || c.Range() > j.x.Store(n).Fence() {
				j.fails("host", i, "holds", n, "as", c.Owner(), c.Range())
			}
		}
	}
	for n := range j.s.c.Shards {
		fence := j.x.Store(n).Fence()
		l, _ := j.x.Leases().Get(n)
		if fence < j.fences[n] || fence > l.Range {
			j.fails("shard", n, "has the fence", fence, "behind", j.fences[n], l)
		}
		j.fences[n] = fence
		for _, t := range j.x.Exec(n).Dispatches() {
			if int(real(t.ID)) > fence {
				j.fails("a task of a range that is none", t)
			}
		}
	}
}

// holds says how a host holds a shard: not, or fenced, or as it must be to commit.
func (j *judge) holds(i, n int) (held, fenced bool) {
	r, held := j.x.Host(i).Range(n)
	return held, held && r != j.x.Store(n).Fence()
}

// does does an entry, and judges it; of a request its path and body stand beside it. The answer is the reply's status and body.
func (j *judge) does(e api.Entry, path, body string) (int, string) {
	j.t.Helper()
	j.story = append(j.story, line(e))
	before := make([]int, j.s.c.Shards)
	for n := range before {
		before[n] = j.x.Store(n).Commits()
	}
	now := j.x.Now()
	status, answer, refused, shard := 0, "", []effect{}, 0
	switch {
	case path == "/poll" && j.x.Host(e.Host) != nil:
		status, answer, shard, refused = j.poll(e, body)
	case path != "" && j.x.Host(e.Host) != nil:
		status, answer, shard, refused = j.ask(e, path, body, now)
	case e.Kind == api.EvPick && e.What == api.PickFire && j.x.Host(e.Host) != nil && j.x.Exec(e.Shard) != nil:
		shard, refused = j.fire(e, now)
	case e.Kind == api.EvDeliver && j.x.Net().Len() > 0:
		shard, refused = j.deliver(e, now)
	case e.Kind == api.EvLose:
		j.lose(e)
	default:
		j.shaky = j.shaky || e.Kind == api.EvFail || e.Kind == api.EvStop
		j.x.Do(e)
		j.settle(j.s)
	}
	for n := range before {
		if e.Kind != api.EvLose && j.x.Store(n).Commits() != before[n] {
			j.maybe[n] = nil // what was refused ahead of a batch that was taken is never told
		}
	}
	j.maybe[shard] = append(j.maybe[shard], refused...)
	j.ranges()
	return status, answer
}

// ask judges a request that is about a workflow.
func (j *judge) ask(e api.Entry, path, body string, now int) (int, string, int, []effect) {
	j.t.Helper()
	flow, want := j.s.asked(path, body, now)
	n := j.s.shard(flow)
	held, fenced := j.holds(e.Host, n)
	to, some := j.x.Host(e.Host).For(n)
	if !some {
		to = -1
	}
	raw, _ := j.x.Do(e)
	status, answer := reply(j.t, raw)
	same := status == want.status && answer == want.body
	elsewhere := status == 307 && answer == owner(to)
	j.met[fmt.Sprint(strings.Split(path, "?")[0], status)]++
	switch {
	case want.wrong && same:
	case !want.wrong && !held && elsewhere:
	case !want.wrong && held && want.does == nil && same:
	case !want.wrong && held && want.does != nil && !fenced && same:
		j.settle(j.with(*want.does)) // it took effect, once
		return status, answer, n, nil
	case !want.wrong && fenced && want.does != nil && elsewhere:
		j.met["fenced"]++
	case !want.wrong && held && !fenced && want.does != nil && status == 503 && j.shaky:
		j.settle(j.s)
		return status, answer, n, []effect{*want.does}
	default:
		j.fails(path, body, "is answered", status, answer, "not", want.status, want.body, "held", held, "fenced", fenced)
	}
	j.settle(j.s)
	return status, answer, n, nil
}

// offered is the effect of a poll: what is pending first of that queue, and in which shard.
func (j *judge) offered(i int, queue string) (effect, string, int, bool) {
	for _, n := range j.x.Host(i).Owns() {
		for _, t := range j.x.Host(i).Pending(n) {
			r := j.s.rows[t.Flow]
			d, _ := j.s.def(r.state.Def)
			k := slices.IndexFunc(d.Nodes, func(n api.Node) bool { return n.Name == t.Node })
			if r.state.Status == api.Running && k >= 0 && d.Nodes[k].Arg == queue && r.state.Nodes[k].Status == api.Ready && r.state.Nodes[k].Try+1 == t.Try {
				return effect{flow: t.Flow, in: api.Input{Kind: api.InTake, Node: t.Node, Now: j.x.Now()}}, fmt.Sprintf(`{"flow":"%s","node":"%s","try":%d}`, t.Flow, t.Node, t.Try), n, true
			}
		}
	}
	return effect{}, refused("none"), 0, false
}

// poll judges a poll: it gives out what may be begun, and that has begun then.
func (j *judge) poll(e api.Entry, body string) (int, string, int, []effect) {
	j.t.Helper()
	l, _, why := front.Object(body)
	queue, is := front.Text(l, "queue")
	take, want, n, some := j.offered(e.Host, queue)
	_, fenced := j.holds(e.Host, n)
	raw, _ := j.x.Do(e)
	status, answer := reply(j.t, raw)
	j.met[fmt.Sprint("/poll", status)]++
	switch {
	case why != api.OK || !is:
		if status != 400 {
			j.fails(body, "is answered", status, answer)
		}
	case !some && status == 404 && answer == want:
	case some && !fenced && status == 200 && answer == want:
		j.settle(j.with(take))
		return status, answer, n, nil
	case some && fenced && status == 307:
		j.met["fenced"]++
	case some && !fenced && status == 503 && j.shaky:
		j.settle(j.s)
		return status, answer, n, []effect{take}
	default:
		j.fails(body, "is answered", status, answer, "not", want)
	}
	j.settle(j.s)
	return status, answer, n, nil
}

// fire judges an alarm.
func (j *judge) fire(e api.Entry, now int) (int, []effect) {
	j.t.Helper()
	held, fenced := j.holds(e.Host, e.Shard)
	alarms := j.x.Exec(e.Shard).Alarms()
	_, why := j.x.Do(e)
	j.met[fmt.Sprint("fire", why)]++
	if !held || len(alarms) == 0 || alarms[0].At > now {
		if why != api.ErrOwner && why != api.ErrNone {
			j.fails("an alarm that is not due", why)
		}
		j.settle(j.s)
		return e.Shard, nil
	}
	t := alarms[0]
	fires := effect{flow: t.Flow, alarm: alarmName(t), in: api.Input{Kind: api.InFire, Node: t.Node, Try: t.Try, Now: now}}
	fired := fires
	fired.alarm = "" // it has fired, and is still there
	switch {
	case fenced && why == api.ErrFence:
		j.settle(j.s)
	case !fenced && why == api.OK:
		j.settle(j.with(fires))
	case !fenced && (why == api.ErrIO || why == api.ErrDead) && j.shaky:
		j.settle(j.s, j.with(fired))
		return e.Shard, []effect{fired, {alarm: fires.alarm}}
	default:
		j.fails("an alarm", t, why)
	}
	return e.Shard, nil
}

// deliver judges a delivery: at most the next mail takes effect, and it is the one that was sent.
func (j *judge) deliver(e api.Entry, now int) (int, []effect) {
	j.t.Helper()
	many := j.x.Net().Len()
	p, _ := j.x.Net().Look((e.N%many + many) % many)
	v, _, why := codec.ReadEnvelope(p.Bytes)
	at := [2]int{v.From, v.To}
	if v.Kind == api.EnvAck {
		at = [2]int{v.To, v.From}
	}
	if why != api.OK || v.Seq > len(j.s.sent[at]) || v.Kind == api.EnvAck && v.Seq > j.s.taken[at] || v.Kind == api.EnvMail && v.Mail != j.s.sent[at][v.Seq-1] {
		j.fails("a parcel that nobody can have sent", v)
	}
	up := j.x.Host(p.To) != nil
	next := v.Kind == api.EnvMail && v.Seq == j.s.taken[at]+1
	sure := false
	if up && next {
		held, fenced := j.holds(p.To, v.To)
		next = held && !fenced
		sure = next && !j.shaky
	}
	waited := len(j.x.Exec(at[0]).Outbox(at[1]))
	j.x.Do(e)
	if gone := waited - len(j.x.Exec(at[0]).Outbox(at[1])); v.Kind == api.EnvMail && gone > 0 || gone < 0 && !next {
		j.fails("a mail has changed its outbox", gone)
	}
	takes := effect{mail: true, between: at, now: now}
	switch {
	case !up || !next:
		j.settle(j.s)
	case sure:
		j.settle(j.with(takes))
		j.met["mail"]++
	default:
		was := j.s
		j.settle(j.s, j.with(takes))
		if j.s == was {
			return v.To, []effect{takes}
		}
		j.met["mail"]++
	}
	return 0, nil
}

// lose judges W4: the shard is as it was, or as one of what was refused would have made it.
func (j *judge) lose(e api.Entry) {
	j.t.Helper()
	_, why := j.x.Do(e)
	outcomes := []*sheet{j.s}
	for _, m := range j.maybe[e.Shard] {
		if why == api.OK {
			outcomes = append(outcomes, j.with(m))
		}
	}
	j.met[fmt.Sprint("lose", len(outcomes) > 1)]++
	j.settle(outcomes...)
	if why == api.OK {
		j.maybe[e.Shard] = nil
	}
}

// W1, W2, W3, W4, W6, P15.5 to P15.8: whatever the script, a cluster keeps the laws.
func TestLaws(t *testing.T) {
	met := map[string]int{}
	for seed := range int64(400) {
		a := newAuthor(t, seed+1000)
		a.calm = seed%4 == 0
		j := newJudge(t, a.c, met)
		j.story = append(j.story, fmt.Sprint("seed ", seed))
		for _, e := range a.begin() {
			j.does(e, "", "")
		}
		for range 300 {
			e, path, body := a.next(j.x)
			status, answer := j.does(e, path, body)
			a.heard(path, answer, status)
		}
		folds(t, j.x, a.c)
	}
	for _, kind := range []string{"mail", "fenced", "losetrue", "losefalse", "fire0", "fire3", "fire5", "/start200", "/start307", "/start503", "/start409", "/poll200", "/poll404", "/poll307", "/poll503", "/complete200", "/complete503", "/signal200", "/cancel200", "/fail200", "/query200"} {
		if met[kind] == 0 {
			t.Error("never met:", kind)
		}
	}
}
