package exec

import (
	"tiller/api"
	"tiller/codec"
	"tiller/shard"
)

// Advance raises the level.
func (x *Exec) Advance(c *shard.Ctx, level api.ID) (int, api.Errno) {
	if refusal := x.refusesHold(c); refusal != api.OK {
		return 0, refusal
	}
	if !codec.Less(x.Level(), level) {
		return 0, api.OK
	}
	many, ops := x.cut(dispatches(), dispatchKey+codec.IDKey(level))
	ops = append(ops, api.Op{Key: levelKey, Value: codec.IDKey(level)})
	if refusal := c.Commit(ops); refusal != api.OK {
		return 0, refusal
	}
	return many, api.OK
}

// Drop takes an alarm away.
func (x *Exec) Drop(c *shard.Ctx, id api.ID) api.Errno {
	if refusal := x.refusesHold(c); refusal != api.OK {
		return refusal
	}
	key := alarmKey + codec.IDKey(id)
	if _, there := x.store.Get(key); !there {
		return api.ErrNone
	}
	return c.Commit([]api.Op{{Key: key, Gone: true}})
}

// Acked takes envelopes away.
func (x *Exec) Acked(c *shard.Ctx, to, seq int) (int, api.Errno) {
	if refusal := x.refusesHold(c); refusal != api.OK {
		return 0, refusal
	}
	if !x.isShard(to) || seq > x.Last(to) {
		return 0, api.ErrArg
	}
	many, ops := x.cut(outbox(to), mailKey+number(to)+number(max(seq, 0)))
	if many == 0 {
		return 0, api.OK
	}
	if refusal := c.Commit(ops); refusal != api.OK {
		return 0, refusal
	}
	return many, api.OK
}

// Pass passes an envelope by, and tells others.
func (x *Exec) Pass(c *shard.Ctx, from, seq int, back []api.Mail) api.Errno {
	if refusal := x.refusesHold(c); refusal != api.OK {
		return refusal
	}
	switch {
	case !x.isShard(from):
		return api.ErrArg
	case seq != x.Mark(from)+1:
		return api.ErrOrder
	case size(back, mailAlone) > mostBytes || astray(back):
		return api.ErrForm
	}
	mark := api.Op{Key: markKey + number(from), Value: number(seq)}
	return c.Commit(append(x.posted(back), mark))
}

// mailAlone writes a mail as an envelope that comes from nowhere, as Pass weighs it.
func mailAlone(m api.Mail) ([]byte, api.Errno) {
	return codec.Envelope(api.Envelope{Kind: api.EnvMail, Mail: m})
}
