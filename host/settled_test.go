package host_test

import (
	"testing"

	"tiller/api"
	"tiller/codec"
	"tiller/host"
	"tiller/kv"
	"tiller/world"
)

// What P15.4 asks of a host's hold: that it is open, no dispatch is behind its Transfer's cursor, and nothing pending is stale (P14.6).

// settledIs must be the answer, and the question must change nothing.
func settledIs(t *testing.T, w *town, h *host.Host, n int, want bool, why string) {
	t.Helper()
	was := w.told() + toldOf(h, w.c.Shards)
	for range 2 {
		if h.Settled(n) != want {
			t.Fatalf("%s: it must be %v", why, want)
		}
	}
	if w.told()+toldOf(h, w.c.Shards) != was {
		t.Fatal(why, ": it has changed something")
	}
}

func TestSettledWantsAnOpenHold(t *testing.T) {
	w := lay(t, 3, 1, wText)
	h := w.host(0)
	settledIs(t, w, h, 0, false, "nothing is held")
	h.Learn(api.View{Version: 1, Hosts: []int{0}})
	picks(t, h, api.PickOwn, 1, 0, now, api.OK)
	for _, n := range []int{-1 << 63, -1, 0, 2, 3, api.MaxShards, 1<<63 - 1} {
		settledIs(t, w, h, n, false, "it does not hold that")
	}
	settledIs(t, w, h, 1, true, "nothing is there")
	for _, c := range h.All() {
		c.Release()
	}
	settledIs(t, w, h, 1, false, "the hold has closed")
	picks(t, h, api.PickOwn, 1, 0, now, api.OK)
	settledIs(t, w, h, 1, true, "it is held again")
	h.Forget(1, nil)
	settledIs(t, w, h, 1, false, "it is forgotten")
}

// The cursor is where the loads went; polls and acks leave it there, and a new hold begins at the level.
func TestSettledGoesByTheCursor(t *testing.T) {
	w := lay(t, 1, 1, "workflow w\na activity q tries 2\nb activity p")
	h := w.alone(0)
	starts(t, h, "f", "w")
	settledIs(t, w, h, 0, false, "two are behind the cursor")
	polls(t, h, "q", 404, refused("none"))
	settledIs(t, w, h, 0, false, "a poll loads nothing")
	picks(t, h, api.PickLoad, 0, 0, now, api.OK)
	polls(t, h, "q", 200, given("f", "a", 1))
	settledIs(t, w, h, 0, false, "the second is behind the cursor, the first at it")
	picks(t, h, api.PickAck, 0, 0, now, api.OK)
	settledIs(t, w, h, 0, false, "the second is behind the cursor still")
	picks(t, h, api.PickLoad, 0, 0, now, api.OK)
	settledIs(t, w, h, 0, true, "it is pending")
	polls(t, h, "p", 200, given("f", "b", 1))
	settledIs(t, w, h, 0, true, "it is finished, at the cursor")
	h.Forget(0, nil)
	picks(t, h, api.PickOwn, 0, 0, now, api.OK)
	settledIs(t, w, h, 0, false, "the new hold has not loaded it")
	polls(t, h, "none", 404, refused("none"))
	settledIs(t, w, h, 0, false, "a poll finishes what is loaded alone")
	picks(t, h, api.PickLoad, 0, 0, now, api.OK)
	settledIs(t, w, h, 0, false, "it is pending, and stale")
	polls(t, h, "none", 404, refused("none"))
	settledIs(t, w, h, 0, true, "the poll has finished it")
	picks(t, h, api.PickAck, 0, 0, now, api.OK)
	settledIs(t, w, h, 0, true, "it is gone")
	asks(t, h, "/fail", object("flow", "f", "node", "a", "try", 1), 200, events(6))
	settledIs(t, w, h, 0, false, "the next try is behind the cursor")
	picks(t, h, api.PickLoad, 0, 15, now, api.OK)
	settledIs(t, w, h, 0, true, "it is pending")
	asks(t, h, "/cancel", object("flow", "f"), 200, events(7))
	settledIs(t, w, h, 0, false, "it is stale")
}

// Two hosts with open holds of one shard: each goes by its own cursor.
func TestSettledOfTwoHosts(t *testing.T) {
	w := lay(t, 1, 2, "workflow w\na activity q")
	a := w.alone(0)
	starts(t, a, "f", "w")
	picks(t, a, api.PickLoad, 0, 0, now, api.OK)
	b := w.alone(1)
	settledIs(t, w, a, 0, true, "it has loaded, though it is fenced")
	settledIs(t, w, b, 0, false, "it has not")
	picks(t, b, api.PickLoad, 0, 0, now, api.OK)
	polls(t, b, "q", 200, given("f", "a", 1))
	settledIs(t, w, a, 0, false, "what it has pending the other has begun")
	settledIs(t, w, b, 0, true, "it has finished it")
}

// A hold goes by the store that it was taken on.
func TestSettledOfAnotherStore(t *testing.T) {
	w := lay(t, 1, 1, "workflow w\na activity q")
	h := w.alone(0)
	starts(t, h, "f", "w")
	other, _ := kv.Open(world.NewDisk(), 0)
	h.Forget(0, other)
	picks(t, h, api.PickOwn, 0, 0, now, api.OK)
	settledIs(t, w, h, 0, true, "the other store has nothing")
	starts(t, h, "f", "w")
	settledIs(t, w, h, 0, false, "one is behind the cursor")
}

// settled is P15.4's word of a hold.
func (m *model) settled(n int) bool {
	o := m.open(n)
	if o == nil {
		return false
	}
	for _, task := range o.x.Dispatches() {
		if codec.Less(o.t.Cursor(), task.ID) {
			return false
		}
	}
	for _, task := range o.t.Pending() {
		if _, _, _, stale := m.stale(o, task); stale {
			return false
		}
	}
	return true
}
