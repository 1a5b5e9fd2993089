package exec

import (
	"iter"

	"tiller/api"
	"tiller/codec"
)

// What stands under which key. A workflow's name may be longer than a key, so its records stand under its place: how many workflows came ahead of it.
const (
	nameKey     = "name/"     // and a place: the workflow's name
	stateKey    = "state/"    // and a place: its state
	eventKey    = "event/"    // and a place, and how many events came ahead: an event
	requestKey  = "request/"  // and a place, and a number that rises: a request's name
	answerKey   = "answer/"   // and the same place and number: its answer
	dispatchKey = "dispatch/" // and an ID: a task
	alarmKey    = "alarm/"    // and an ID: a task
	mailKey     = "mail/"     // and a shard, and a Seq: an envelope
	lastKey     = "last/"     // and a shard: its outbox's last Seq
	ackedKey    = "acked/"    // and a shard: the key of the last envelope that is gone
	markKey     = "mark/"     // and a shard: its mark
	levelKey    = "level"     // the level
	clearedKey  = "cleared"   // the key of the last dispatch that is gone
	end         = "\xff"      // stands behind all that a key goes on with
)

// mostGone is how many keys a batch may take away, so that the store never finds it too large.
const mostGone = 16384

// number is a number as a part of a key, or as a value. Codec's form says first how many bytes there are: so keys stand in the order of their numbers, and none goes on as another one does.
func number(n int) string {
	raw, _ := codec.Number(n) // none here is out of range
	return string(raw)
}

// number is the number under a key; 0 where nothing stands there.
func (x *Exec) number(key string) int {
	value, _ := x.store.Get(key)
	n, _, _ := codec.ReadNumber([]byte(value))
	return n
}

// under tells what stands under the keys that go on behind a beginning.
func (x *Exec) under(beginning string) iter.Seq2[string, string] {
	return x.store.Scan(beginning, beginning+end)
}

// records reads all values that are told. What is no record nobody here has put there; it is passed by.
func records[T any](pairs iter.Seq2[string, string], read func([]byte) (T, int, api.Errno)) []T {
	var list []T
	for _, value := range pairs {
		if record, _, refusal := read([]byte(value)); refusal == api.OK {
			list = append(list, record)
		}
	}
	return list
}

// row is records whose keys rise from commit to commit, and that go from the front. There may be more of them than a batch can take away: so it is said up to which key they are gone, and those which the batch has no room for lie there, out of sight, till a later one takes them.
type row struct {
	beginning string // of their keys
	gone      string // the key under which that is said
}

// dispatches is the row of dispatches: IDs rise, since each hold's are above those of all earlier ones.
func dispatches() row {
	return row{dispatchKey, clearedKey}
}

// outbox is the row of the envelopes to a shard.
func outbox(to int) row {
	return row{mailKey + number(to), ackedKey + number(to)}
}

// rest tells those of a row that are there.
func (x *Exec) rest(r row) iter.Seq2[string, string] {
	from := r.beginning
	if last, some := x.store.Get(r.gone); some {
		from = last + end
	}
	return x.store.Scan(from, r.beginning+end)
}

// cut is how many of a row go, if those up to a key do, and the changes by which they go; none, if none goes.
func (x *Exec) cut(r row, upTo string) (int, []api.Op) {
	many, last := 0, ""
	for key := range x.rest(r) {
		if key > upTo {
			break
		}
		many, last = many+1, key
	}
	if many == 0 {
		return 0, nil
	}
	ops := []api.Op{{Key: r.gone, Value: last}}
	for key := range x.store.Scan(r.beginning, last+end) {
		if len(ops) > mostGone {
			break
		}
		ops = append(ops, api.Op{Key: key, Gone: true})
	}
	return many, ops
}
