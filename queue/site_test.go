package queue_test

import (
	"cmp"
	"fmt"
	"math"
	"slices"
	"testing"

	"tiller/api"
	"tiller/exec"
	"tiller/kv"
	"tiller/lease"
	"tiller/queue"
	"tiller/shard"
	"tiller/world"
)

// site is a shard of a cluster of one: its store on a disk, and the last hold on it.
type site struct {
	t     testing.TB
	disk  *world.Disk
	table *lease.Table
	store *kv.Store
	x     *exec.Exec
	c     *shard.Ctx
}

func lay(t testing.TB) *site {
	t.Helper()
	s := &site{t: t, disk: world.NewDisk()}
	s.table, _ = lease.Open(world.NewDisk())
	s.open()
	s.hold()
	return s
}

// open opens the store anew.
func (s *site) open() {
	s.t.Helper()
	var e, f api.Errno
	s.store, e = kv.Open(s.disk, 0)
	s.x, f = exec.New(s.store, 1, 0)
	answers(s.t, e, api.OK)
	answers(s.t, f, api.OK)
}

// hold takes the shard, anew.
func (s *site) hold() {
	s.t.Helper()
	s.c = s.take(0)
}

// take takes any shard, over the same store.
func (s *site) take(n int) *shard.Ctx {
	s.t.Helper()
	for range 100 { // a fence that another shard's range has raised is passed by
		if c, e := shard.Acquire(s.table, s.store, n, 9); e != api.ErrFence {
			answers(s.t, e, api.OK)
			return c
		}
	}
	s.t.Fatal("the shard can't be taken")
	return nil
}

// adds commits tasks, and tells them with their IDs.
func (s *site) adds(tasks ...api.Task) []api.Task {
	s.t.Helper()
	was := len(s.x.Events("f"))
	made, e := s.x.Commit(s.c, api.Update{Flow: "f", Expect: was, Events: []api.Event{{Kind: api.Kept}}, State: api.State{ID: "f", Events: was + 1}, Tasks: tasks})
	answers(s.t, e, api.OK)
	return made
}

// dispatches are so many, of which no two are alike.
func dispatches(many int) []api.Task {
	var tasks []api.Task
	for i := range many {
		tasks = append(tasks, api.Task{Kind: api.Dispatch, Flow: "f", Node: fmt.Sprint("n", i), Try: i})
	}
	return tasks
}

func alarm(at int) api.Task {
	return api.Task{Kind: api.Alarm, Flow: "f", Node: fmt.Sprint("at", at), Try: 1, At: at}
}

// with is a shard with so many dispatches: 1+1i and so on.
func with(t testing.TB, many int) *site {
	t.Helper()
	s := lay(t)
	s.adds(dispatches(many)...)
	return s
}

func answers(t testing.TB, got, want api.Errno) {
	t.Helper()
	if got != want {
		t.Fatalf("answered %d, want %d", got, want)
	}
}

// id is 1+ni.
func id(n int) api.ID { return api.ID(complex(1, float64(n))) }

// notRight are IDs that are not right.
func notRight() []api.ID {
	list := []api.ID{-1, -1i, 1 - 1i, -1 + 1i, 1.5 + 1i, 1 + 1.5i, api.MaxNumber + 1, 1 + (api.MaxNumber+1)*1i}
	for _, part := range []float64{math.NaN(), math.Inf(1), math.Inf(-1), math.Copysign(0, -1), 1e300} {
		list = append(list, api.ID(complex(part, 1)), api.ID(complex(1, part)), api.ID(complex(part, part)))
	}
	return list
}

// The model.

// byID tells the order of IDs by their parts.
func byID(a, b api.ID) int {
	return cmp.Or(cmp.Compare(real(a), real(b)), cmp.Compare(imag(a), imag(b)))
}

// watched is a Transfer, and beside it what it has by the chapter's words.
type watched struct {
	*queue.Transfer
	s        *site
	x        *exec.Exec
	c        *shard.Ctx
	loaded   []api.Task
	finished map[api.ID]struct{}
	cursor   api.ID
	acked    api.ID // the Level at NewTransfer, or what the last Ack that was OK reached
}

// transferBy is a new Transfer of a hold.
func (s *site) transferBy(c *shard.Ctx) *watched {
	s.t.Helper()
	q, e := queue.NewTransfer(s.x, c)
	answers(s.t, e, api.OK)
	w := &watched{Transfer: q, s: s, x: s.x, c: c, finished: map[api.ID]struct{}{}, cursor: s.x.Level(), acked: s.x.Level()}
	w.stands()
	return w
}

func (s *site) transfer() *watched {
	s.t.Helper()
	return s.transferBy(s.c)
}

func (w *watched) isPending(task api.Task) bool {
	_, over := w.finished[task.ID]
	return !over
}

func (w *watched) pending() []api.Task {
	var list []api.Task
	for _, task := range w.loaded {
		if w.isPending(task) {
			list = append(list, task)
		}
	}
	return list
}

func (w *watched) reach() api.ID {
	first := slices.IndexFunc(w.loaded, w.isPending)
	switch {
	case first < 0:
		return w.cursor
	case first > 0:
		return w.loaded[first-1].ID
	}
	return w.acked
}

// behind are the dispatches that there are behind the cursor.
func (w *watched) behind() []api.Task {
	var list []api.Task
	for _, task := range w.x.Dispatches() {
		if byID(task.ID, w.cursor) > 0 {
			list = append(list, task)
		}
	}
	return list
}

// stands ends the test if the Transfer tells anything but what it must.
func (w *watched) stands() {
	w.s.t.Helper()
	if got, want := w.Pending(), w.pending(); !slices.Equal(got, want) {
		w.s.t.Fatalf("pending are\n%+v\nwant\n%+v", got, want)
	}
	if got, want := slices.Collect(w.All()), w.pending(); !slices.Equal(got, want) {
		w.s.t.Fatalf("told are\n%+v\nwant\n%+v", got, want)
	}
	if got := w.Cursor(); got != w.cursor {
		w.s.t.Fatalf("the cursor is %v, want %v", got, w.cursor)
	}
	if got := w.Reach(); got != w.reach() {
		w.s.t.Fatalf("the reach is %v, want %v", got, w.reach())
	}
	if got, want := w.Drained(), len(w.pending()) == 0 && len(w.behind()) == 0; got != want {
		w.s.t.Fatalf("drained is %t", got)
	}
}

// loads loads, and must answer so many.
func (w *watched) loads(most, want int) {
	w.s.t.Helper()
	next := w.behind()
	next = next[:max(0, min(most, len(next)))]
	w.loaded = append(w.loaded, next...)
	if len(next) > 0 {
		w.cursor = next[len(next)-1].ID
	}
	ops := w.s.disk.Ops()
	if got := w.Load(most); got != want || got != len(next) || w.s.disk.Ops() != ops {
		w.s.t.Fatalf("Load(%d) is %d, want %d", most, got, want)
	}
	w.stands()
}

// finishes must be true of these, and false of each again.
func (w *watched) finishes(ids ...api.ID) {
	w.s.t.Helper()
	for _, id := range ids {
		if !w.Finish(id) {
			w.s.t.Fatal(id, "was not pending")
		}
		w.finished[id] = struct{}{}
		w.stands()
		w.knowsNot(id)
	}
}

// knowsNot: Finish must be false of these, and change nothing.
func (w *watched) knowsNot(ids ...api.ID) {
	w.s.t.Helper()
	for _, id := range ids {
		ops := w.s.disk.Ops()
		if w.Finish(id) || w.s.disk.Ops() != ops {
			w.s.t.Fatal(id, "was pending")
		}
		w.stands()
	}
}

// acks must be OK, and answer so many; the store behind it is held to exec's words.
func (w *watched) acks(want int) {
	w.s.t.Helper()
	reach, level := w.reach(), w.x.Level()
	left := w.x.Dispatches()
	if byID(level, reach) < 0 {
		level = reach
		left = slices.DeleteFunc(left, func(task api.Task) bool { return byID(task.ID, reach) <= 0 })
	}
	got, e := w.Ack()
	answers(w.s.t, e, api.OK)
	if got != want {
		w.s.t.Fatalf("Ack is %d, want %d", got, want)
	}
	w.acked = reach
	w.loaded = slices.DeleteFunc(w.loaded, func(task api.Task) bool { return byID(task.ID, reach) <= 0 })
	if w.x.Level() != level || !slices.Equal(w.x.Dispatches(), left) {
		w.s.t.Fatal("the store has", w.x.Level(), w.x.Dispatches(), "want", level, left)
	}
	w.stands()
}

// refusesAck: Ack must be refused so, and change nothing.
func (w *watched) refusesAck(want api.Errno) {
	w.s.t.Helper()
	level, left := w.x.Level(), w.x.Dispatches()
	if got, e := w.Ack(); got != 0 || e != want {
		w.s.t.Fatalf("Ack is %d, %d, want %d", got, e, want)
	}
	if w.x.Level() != level || !slices.Equal(w.x.Dispatches(), left) {
		w.s.t.Fatal("the store has", w.x.Level(), w.x.Dispatches(), "want", level, left)
	}
	w.stands()
}
