package queue_test

import (
	"fmt"
	"math/rand"
	"slices"
	"testing"

	"tiller/api"
	"tiller/shard"
)

// P11.5

// What was finished and not acked is loaded again by a new Transfer; what was acked is not.
func TestANewTransferLoadsWhatWasNotAcked(t *testing.T) {
	s := with(t, 6)
	q := s.transfer()
	q.loads(5, 5)
	q.finishes(1+1i, 1+2i)
	q.acks(2)
	q.finishes(1+3i, 1+5i)
	for i := range 4 {
		switch i {
		case 1: // of another hold
			s.hold()
		case 2: // of the store as the disk has it
			s.open()
			s.hold()
		case 3:
			s.disk.Crash(nil)
			s.open()
			s.hold()
		}
		p := s.transfer()
		if p.Reach() != 1+2i || p.Cursor() != 1+2i {
			t.Fatal(p.Reach(), p.Cursor())
		}
		p.loads(9, 4)
		if l := p.Pending(); l[0].ID != 1+3i || l[3].ID != 1+6i {
			t.Fatal(l)
		}
	}
}

// An Ack that was OK is durable: what it let go is nowhere behind a crash, all else is there.
func TestAckIsDurable(t *testing.T) {
	for cut := range 40 {
		s := with(t, 5)
		q := s.transfer()
		q.loads(4, 4)
		q.finishes(1+1i, 1+3i)
		q.acks(1)
		s.disk.Crash([]int{cut, cut, cut})
		s.open()
		s.hold()
		p := s.transfer()
		p.loads(9, 4)
		if p.Reach() != 1+1i {
			t.Fatal(p.Reach())
		}
	}
}

// An Ack that was struck and a crash: it took effect whole, or not at all.
func TestAckAndCrash(t *testing.T) {
	for after := range 4 {
		for cut := range 60 {
			s := with(t, 5)
			q := s.transfer()
			q.loads(4, 4)
			q.finishes(1+2i, 1+1i, 1+4i)
			s.disk.Stop(after)
			_, e := q.Ack()
			s.disk.Crash([]int{cut, cut, cut})
			s.open()
			s.hold()
			p := s.transfer()
			switch p.Reach() {
			case 0:
				if e == api.OK {
					t.Fatal(after, cut, "it was OK")
				}
				p.loads(9, 5)
			case 1 + 2i:
				p.loads(9, 3)
			default:
				t.Fatal(after, cut, p.Reach())
			}
		}
	}
}

// run is a site, the Transfers that were made on it, and what each dispatch has seen.
type run struct {
	*site
	r         *rand.Rand
	transfers []*watched
	holds     []*shard.Ctx
	made      []api.ID
	over      map[api.ID]struct{} // finished by any Transfer, or let go by a Level raised ahead
}

func newRun(t testing.TB, seed int64) *run {
	r := &run{site: lay(t), r: rand.New(rand.NewSource(seed)), over: map[api.ID]struct{}{}}
	r.holds = []*shard.Ctx{r.c}
	return r
}

// any is one of the Transfers, the later ones more often.
func (r *run) any() *watched {
	if len(r.transfers) == 0 || r.r.Intn(12) == 0 {
		r.transfers = append(r.transfers, r.transferBy(r.holds[max(0, len(r.holds)-1-r.r.Intn(4)/3)]))
	}
	return r.transfers[max(0, len(r.transfers)-1-r.r.Intn(4))]
}

// commits commits some tasks by the last hold.
func (r *run) commits() {
	var tasks []api.Task
	for i := range r.r.Intn(5) {
		if r.r.Intn(4) == 0 {
			tasks = append(tasks, alarm(r.r.Intn(9)))
			continue
		}
		tasks = append(tasks, api.Task{Kind: api.Dispatch, Flow: "f", Node: fmt.Sprint(len(r.made)), Try: i})
	}
	for _, task := range r.adds(tasks...) {
		if task.Kind == api.Dispatch {
			r.made = append(r.made, task.ID)
		}
	}
}

// finishes finishes any dispatch that was ever made, or one that is pending.
func (r *run) finishes() {
	w := r.any()
	if l := w.pending(); len(l) > 0 && r.r.Intn(4) > 0 {
		task := l[r.r.Intn(len(l))]
		w.finishes(task.ID)
		r.over[task.ID] = struct{}{}
		return
	}
	if len(r.made) == 0 {
		return
	}
	id := r.made[r.r.Intn(len(r.made))]
	if slices.ContainsFunc(w.pending(), func(task api.Task) bool { return task.ID == id }) {
		w.finishes(id)
		r.over[id] = struct{}{}
		return
	}
	w.knowsNot(id)
}

// acks acks by any Transfer; it must answer what its hold, the Level and the disk say.
func (r *run) acks() {
	w := r.any()
	raises := byID(w.x.Level(), w.reach()) < 0
	switch {
	case !w.c.Open():
		w.refusesAck(api.ErrOwner)
	case raises && w.c != r.c:
		w.refusesAck(api.ErrFence)
	case raises && r.r.Intn(5) == 0:
		r.disk.Fail(0, r.r.Intn(3))
		w.refusesAck(api.ErrIO)
	default:
		gone := 0
		for _, task := range w.x.Dispatches() {
			if raises && byID(task.ID, w.reach()) <= 0 {
				gone++
			}
		}
		w.acks(gone)
	}
}

// raises raises the Level ahead of all Transfers.
func (r *run) raises() {
	if len(r.made) == 0 || r.r.Intn(3) > 0 {
		return
	}
	level := r.made[len(r.made)-1-r.r.Intn(min(4, len(r.made)))] + api.ID(complex(0, float64(r.r.Intn(3))))
	_, e := r.x.Advance(r.c, level)
	answers(r.t, e, api.OK)
	for _, id := range r.made {
		if byID(id, level) <= 0 {
			r.over[id] = struct{}{}
		}
	}
}

// crashes: all that is in memory is gone.
func (r *run) crashes() {
	if r.r.Intn(4) > 0 {
		return
	}
	r.disk.Crash([]int{r.r.Intn(99), r.r.Intn(99)})
	r.open()
	r.hold()
	r.holds, r.transfers = []*shard.Ctx{r.c}, nil
}

// kept ends the test if a dispatch is gone that was not finished, nor at or below the Level already.
func (r *run) kept(level api.ID) {
	r.t.Helper()
	there := map[api.ID]struct{}{}
	for _, task := range r.x.Dispatches() {
		there[task.ID] = struct{}{}
	}
	for _, id := range r.made {
		_, is := there[id]
		_, over := r.over[id]
		if !is && !over && byID(id, level) > 0 {
			r.t.Fatal(id, "is gone")
		}
		if !is { // what was below a Level that was raised ahead
			r.over[id] = struct{}{}
		}
	}
}

// Anything in any order: each Transfer tells what the chapter's words say of it, behind each call of its own and of the others.
func TestAnyRun(t *testing.T) {
	for seed := range 300 {
		r := newRun(t, int64(seed))
		for range 60 {
			level := r.x.Level()
			switch r.r.Intn(16) {
			case 0, 1, 2:
				r.commits()
			case 3, 4, 5:
				w, most := r.any(), r.r.Intn(7)-1
				w.loads(most, max(0, min(most, len(w.behind()))))
			case 6, 7, 8, 9, 10:
				r.finishes()
			case 11, 12:
				r.acks()
			case 13:
				r.hold()
				r.holds = append(r.holds, r.c)
			case 14:
				r.raises()
			case 15:
				r.crashes()
			}
			for _, w := range r.transfers {
				w.stands()
			}
			r.kept(level)
		}
	}
}

// Whoever loads, finishes and acks to the end leaves nothing, and each dispatch was told at least once.
func TestToTheEnd(t *testing.T) {
	for seed := range 50 {
		r := newRun(t, int64(seed))
		told := map[api.ID]struct{}{}
		for step := 0; step < 40 || len(r.x.Dispatches()) > 0; step++ {
			if step < 40 {
				r.commits()
			}
			if step%9 == 8 { // what the next one finds is what was not acked
				r.hold()
				r.transfers = nil
			}
			if len(r.transfers) == 0 {
				r.transfers = []*watched{r.transfer()}
			}
			w := r.transfers[0]
			w.Load(1 + r.r.Intn(4))
			for task := range w.All() {
				told[task.ID] = struct{}{}
				if r.r.Intn(2) == 0 {
					w.Finish(task.ID)
				}
			}
			_, e := w.Ack()
			answers(t, e, api.OK)
		}
		for _, id := range r.made {
			if _, was := told[id]; !was {
				t.Fatal(seed, id, "is gone, and was never told")
			}
		}
		if !r.transfer().Drained() {
			t.Fatal(seed)
		}
	}
}
