package exec

import (
	"slices"

	"tiller/api"
	"tiller/codec"
	"tiller/dag"
	"tiller/ring"
	"tiller/shard"
)

const (
	mostBytes  = 65000 // of the records of a batch
	mostAnswer = 4096  // bytes of an answer
)

// refusesHold says why nothing can be committed by a hold.
func (x *Exec) refusesHold(c *shard.Ctx) api.Errno {
	if c == nil || c.Shard() != x.shard {
		return api.ErrArg
	}
	if !c.Open() {
		return api.ErrOwner
	}
	return api.OK
}

// Commit commits an update.
func (x *Exec) Commit(c *shard.Ctx, u api.Update) ([]api.Task, api.Errno) {
	if refusal := x.refusesHold(c); refusal != api.OK {
		return nil, refusal
	}
	if refusal := x.refuses(u); refusal != api.OK {
		return nil, refusal
	}
	tasks, refusal := withIDs(c, u.Tasks)
	if refusal != api.OK {
		return nil, refusal
	}
	if refusal := c.Commit(x.changes(u, tasks)); refusal != api.OK {
		return nil, refusal
	}
	return tasks, api.OK
}

// refuses says why an update can't be committed by any hold.
func (x *Exec) refuses(u api.Update) api.Errno {
	if !dag.Flow(u.Flow) || ring.Shard(u.Flow, x.shards) != x.shard {
		return api.ErrName
	}
	was, there := x.Load(u.Flow)
	switch {
	case was.Events != u.Expect || u.State.Events != u.Expect+len(u.Events) || u.Seq > 0 && u.Seq != x.Mark(u.Source)+1:
		return api.ErrOrder
	case u.Seq > 0 && !x.isShard(u.Source) || len(u.Request) > api.MaxText:
		return api.ErrArg
	case !there && len(x.workflows()) >= api.MaxFlows:
		return api.ErrFull
	case size(u.Events, codec.Event)+size([]api.State{u.State}, codec.State)+size(u.Tasks, codec.Task) > mostBytes:
		return api.ErrForm
	case len(u.Answer) > mostAnswer || astray(mailsOf(u.Tasks)):
		return api.ErrForm
	}
	return api.OK
}

// size is how many bytes records have together; too many, if codec refuses one.
func size[T any](records []T, write func(T) ([]byte, api.Errno)) int {
	sum := 0
	for _, record := range records {
		raw, refusal := write(record)
		sum += len(raw)
		if refusal != api.OK || sum > mostBytes {
			return mostBytes + 1
		}
	}
	return sum
}

// mailsOf are the mails that messages among tasks bring.
func mailsOf(tasks []api.Task) []api.Mail {
	var mails []api.Mail
	for _, t := range tasks {
		if t.Kind == api.Message {
			mails = append(mails, t.Mail)
		}
	}
	return mails
}

// astray says whether one of the mails goes to what is no workflow's name.
func astray(mails []api.Mail) bool {
	return slices.ContainsFunc(mails, func(m api.Mail) bool { return !dag.Flow(m.To) })
}

// withIDs are the tasks, each that is no message with an ID of the hold.
func withIDs(c *shard.Ctx, tasks []api.Task) ([]api.Task, api.Errno) {
	var list []api.Task
	for _, t := range tasks {
		if t.Kind != api.Message {
			id, refusal := c.Next()
			if refusal != api.OK {
				return nil, refusal
			}
			t.ID = id
		}
		list = append(list, t)
	}
	return list, api.OK
}

// changes are those of an update that is not refused.
func (x *Exec) changes(u api.Update, tasks []api.Task) []api.Op {
	var ops []api.Op
	place, there := x.place(u.Flow)
	if !there {
		place = number(len(x.workflows()))
		ops = append(ops, api.Op{Key: nameKey + place, Value: u.Flow})
	}
	ops = append(ops, put(stateKey+place, u.State, codec.State))
	for i, e := range u.Events {
		ops = append(ops, put(eventKey+place+number(u.Expect+i), e, codec.Event))
	}
	for _, t := range tasks {
		switch t.Kind {
		case api.Dispatch:
			ops = append(ops, put(dispatchKey+codec.IDKey(t.ID), t, codec.Task))
		case api.Alarm:
			ops = append(ops, put(alarmKey+codec.IDKey(t.ID), t, codec.Task))
		}
	}
	ops = append(ops, x.posted(mailsOf(tasks))...)
	if u.Seq > 0 {
		ops = append(ops, api.Op{Key: markKey + number(u.Source), Value: number(u.Seq)})
	}
	if u.Request != "" {
		ops = append(ops, x.remembered(place, u.Request, u.Answer)...)
	}
	return ops
}

// put is the change that lays a record under a key.
func put[T any](key string, record T, write func(T) ([]byte, api.Errno)) api.Op {
	raw, _ := write(record) // what codec refuses was refused ahead
	return api.Op{Key: key, Value: string(raw)}
}

// posted are the changes that lay mails into their shards' outboxes.
func (x *Exec) posted(mails []api.Mail) []api.Op {
	var ops []api.Op
	var sent [api.MaxShards]int
	for _, m := range mails {
		to := ring.Shard(m.To, x.shards)
		sent[to]++
		e := api.Envelope{Kind: api.EnvMail, From: x.shard, To: to, Seq: x.Last(to) + sent[to], Mail: m}
		ops = append(ops, put(mailKey+number(to)+number(e.Seq), e, codec.Envelope))
	}
	for to, many := range sent {
		if many > 0 {
			ops = append(ops, api.Op{Key: lastKey + number(to), Value: number(x.Last(to) + many)})
		}
	}
	return ops
}

// remembered are the changes by which a request is a workflow's latest one: as it was it is forgotten, or else, where there are as many as may be, the oldest is.
func (x *Exec) remembered(place, request, answer string) []api.Op {
	var ops []api.Op
	var spots []string
	forgotten, next := "", 0
	for spot, name := range x.asked(place) {
		spots = append(spots, spot)
		latest, _, _ := codec.ReadNumber([]byte(spot[len(place):]))
		next = latest + 1
		if name == request {
			forgotten = spot
		}
	}
	if forgotten == "" && len(spots) >= api.MaxIDs {
		forgotten = spots[0]
	}
	if forgotten != "" {
		ops = append(ops, api.Op{Key: requestKey + forgotten, Gone: true}, api.Op{Key: answerKey + forgotten, Gone: true})
	}
	spot := place + number(next)
	return append(ops, api.Op{Key: requestKey + spot, Value: request}, api.Op{Key: answerKey + spot, Value: answer})
}
