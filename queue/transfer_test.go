package queue_test

import (
	"math"
	"math/rand"
	"slices"
	"testing"

	"tiller/api"
	"tiller/exec"
	"tiller/queue"
	"tiller/shard"
)

// The chapter's runs and examples.

func TestRuns(t *testing.T) {
	s := with(t, 3)
	q := s.transfer()
	q.loads(2, 2)
	if l := q.Pending(); len(l) != 2 || l[0].ID != 1+1i || l[1].ID != 1+2i {
		t.Fatal(l)
	}
	q.finishes(1 + 2i)
	if q.Reach() != 0 {
		t.Fatal(q.Reach())
	}
	q.acks(0)
	q.finishes(1 + 1i)
	if q.Reach() != 1+2i {
		t.Fatal(q.Reach())
	}
	q.acks(2)
	q.loads(9, 1)
	q.knowsNot(1 + 1i)
	if q.Drained() {
		t.Fatal("1+3i is pending")
	}
	other := s.transfer()
	other.loads(9, 1)
	if l := other.Pending(); len(l) != 1 || l[0].ID != 1+3i {
		t.Fatal(l)
	}
}

func TestExamples(t *testing.T) {
	s := with(t, 4)
	q := s.transfer()
	q.loads(0, 0)
	if _, e := s.x.Advance(s.c, 1+3i); e != api.OK {
		t.Fatal(e)
	}
	if p := s.transfer(); p.Reach() != 1+3i || p.Cursor() != 1+3i || p.Drained() {
		t.Fatal(p.Reach(), p.Cursor())
	}
	a, b := s.transfer(), s.transfer()
	a.loads(1, 1)
	b.stands()
	b.loads(1, 1)
	a.finishes(1 + 4i)
	b.stands()
	a.acks(1)
	b.stands()
	b.finishes(1 + 4i)
	b.acks(0)
}

// P11.1

func TestNewOfNil(t *testing.T) {
	s := with(t, 1)
	for _, c := range []struct {
		x *exec.Exec
		c *shard.Ctx
	}{{nil, s.c}, {s.x, nil}, {nil, nil}} {
		if q, e := queue.NewTransfer(c.x, c.c); q != nil || e != api.ErrArg {
			t.Fatal(q, e)
		}
		if a, e := queue.NewAlarms(c.x, c.c); a != nil || e != api.ErrArg {
			t.Fatal(a, e)
		}
	}
}

// Any hold will do to make one: that it can't commit is told by what commits.
func TestNewByHoldsThatCommitNothing(t *testing.T) {
	s := with(t, 2)
	s.adds(alarm(5))
	early := s.c
	s.hold()
	closed := s.c
	closed.Release()
	s.hold()
	foreign := s.take(3)
	for _, c := range []struct {
		c    *shard.Ctx
		want api.Errno
	}{{early, api.ErrFence}, {closed, api.ErrOwner}, {foreign, api.ErrArg}} {
		q := s.transferBy(c.c)
		q.loads(9, 2)
		q.finishes(1+2i, 1+1i)
		a, e := queue.NewAlarms(s.x, c.c)
		answers(t, e, api.OK)
		if task, due := a.Due(5); !due || task.ID != 1+3i {
			t.Fatal(task, due)
		}
		if c.c == early { // the first attempt closes it
			q.refusesAck(api.ErrFence)
			answers(t, a.Finish(1+3i), api.ErrOwner)
			q.refusesAck(api.ErrOwner)
			continue
		}
		q.refusesAck(c.want)
		answers(t, a.Finish(1+3i), c.want)
	}
}

// P11.2

func TestLoad(t *testing.T) {
	for _, c := range []struct {
		name  string
		there int
		loads [][2]int // how many are asked for, how many come
	}{
		{"of nothing", 0, [][2]int{{-1, 0}, {0, 0}, {1, 0}, {9, 0}, {math.MaxInt, 0}, {math.MinInt, 0}}},
		{"below 1", 3, [][2]int{{-1, 0}, {0, 0}, {math.MinInt, 0}, {-3, 0}}},
		{"one by one", 3, [][2]int{{1, 1}, {1, 1}, {1, 1}, {1, 0}}},
		{"some", 5, [][2]int{{2, 2}, {0, 0}, {2, 2}, {-1, 0}, {2, 1}, {2, 0}}},
		{"just as many", 5, [][2]int{{5, 5}, {5, 0}}},
		{"more", 5, [][2]int{{6, 5}, {1, 0}}},
		{"the most", 5, [][2]int{{math.MaxInt, 5}, {math.MaxInt, 0}}},
	} {
		t.Run(c.name, func(t *testing.T) {
			q := with(t, c.there).transfer()
			for _, l := range c.loads {
				q.loads(l[0], l[1])
			}
		})
	}
}

func TestLoadBehindNewCommits(t *testing.T) {
	s := lay(t)
	q := s.transfer()
	q.loads(9, 0)
	s.adds(dispatches(2)...)
	q.stands()
	q.loads(1, 1)
	s.adds(dispatches(1)...)
	q.loads(9, 2)
	s.adds(alarm(1), dispatches(1)[0], alarm(2), dispatches(1)[0]) // alarms are none, though they have IDs
	q.stands()
	q.loads(1, 1)
	q.loads(2, 1)
	s.adds(alarm(3))
	q.loads(9, 0)
	q.finishes(1+1i, 1+2i, 1+3i, 1+5i, 1+7i)
	if !q.Drained() || q.Reach() != 1+7i {
		t.Fatal(q.Reach())
	}
	s.adds(dispatches(1)...)
	q.stands()
	q.acks(5)
	q.loads(9, 1)
}

// The IDs of a later hold stand behind those of all earlier ones, whatever their numbers.
func TestLoadOverHolds(t *testing.T) {
	s := with(t, 12)
	q := s.transfer()
	q.loads(11, 11)
	s.hold()
	s.adds(dispatches(3)...)
	q.loads(2, 2)
	if q.Cursor() != 2+1i {
		t.Fatal(q.Cursor())
	}
	p := s.transfer()
	p.loads(99, 15)
	p.finishes(2+1i, 2+3i)
	for n := 12; n > 0; n-- {
		p.finishes(id(n))
		want := 0
		if n == 1 {
			want = 13
		}
		p.acks(want)
	}
	p.finishes(2 + 2i)
	p.acks(2)
	q.loads(9, 0) // 2+2i and 2+3i are gone meanwhile
	if q.Drained() {
		t.Fatal("what was loaded is pending all the same")
	}
}

// A Level that was raised ahead of what it loaded: what is gone is not loaded, what comes behind the cursor is.
func TestLoadBehindARaisedLevel(t *testing.T) {
	s := with(t, 5)
	q := s.transfer()
	q.loads(2, 2)
	if n, e := s.x.Advance(s.c, 1+4i); n != 4 || e != api.OK {
		t.Fatal(n, e)
	}
	q.stands()
	q.loads(9, 1)
	q.finishes(1 + 1i)
	q.acks(0)
	q.finishes(1 + 2i)
	q.acks(0)
	if q.Reach() != 1+2i || s.x.Level() != 1+4i { // not the Level: 1+5i is pending
		t.Fatal(q.Reach())
	}
	q.finishes(1 + 5i)
	q.acks(1)

	if _, e := s.x.Advance(s.c, 7); e != api.OK {
		t.Fatal(e)
	}
	s.adds(dispatches(2)...) // 1+6i and 1+7i, below the Level
	q.loads(1, 1)
	p := s.transfer()
	p.loads(9, 0)
	if !p.Drained() || p.Cursor() != 7 || p.Reach() != 7 {
		t.Fatal(p.Cursor(), p.Reach())
	}
	p.acks(0)
	q.finishes(1 + 6i)
	q.acks(0)
	if l := s.x.Dispatches(); len(l) != 2 || q.Reach() != 1+6i {
		t.Fatal(l, q.Reach())
	}
}

func TestFinish(t *testing.T) {
	s := with(t, 6)
	s.adds(alarm(5))
	q := s.transfer()
	never := append(notRight(), 0, 1, 2, 1i, 1+5i, 1+6i, 1+7i, 1+8i, 2+1i, 1+1000i)
	q.knowsNot(append(never, 1+1i)...) // nothing is loaded
	q.loads(4, 4)
	q.knowsNot(never...)
	q.finishes(1+3i, 1+1i) // each again is false
	q.knowsNot(never...)
	q.acks(1)
	q.knowsNot(append(never, 1+1i, 1+3i)...)
	q.finishes(1+4i, 1+2i)
	q.acks(3)
	q.knowsNot(append(never, 1+1i, 1+2i, 1+3i, 1+4i)...)
	q.loads(9, 2)
	q.knowsNot(1+1i, 1+4i, 1+7i, 1+8i)
	q.finishes(1+5i, 1+6i)
	q.knowsNot(never...)
}

// P11.3

func TestReachOfANewTransfer(t *testing.T) {
	s := with(t, 3)
	for _, level := range []api.ID{0, 1, 1 + 2i, 2 + 9i} {
		if _, e := s.x.Advance(s.c, level); e != api.OK {
			t.Fatal(e)
		}
		if q := s.transfer(); q.Reach() != level || q.Cursor() != level {
			t.Fatal(q.Reach(), q.Cursor())
		}
	}
}

func TestAck(t *testing.T) {
	s := with(t, 4)
	q := s.transfer()
	commits := s.store.Commits()
	q.acks(0) // nothing is loaded
	q.loads(3, 3)
	q.acks(0) // nothing is finished
	q.finishes(1+2i, 1+3i)
	q.acks(0) // the first one is pending
	if s.store.Commits() != commits {
		t.Fatal("something was committed")
	}
	q.finishes(1 + 1i)
	q.acks(3) // all is finished
	if s.store.Commits() != commits+1 {
		t.Fatal(s.store.Commits()-commits, "batches")
	}
	q.acks(0) // twice
	if s.store.Commits() != commits+1 || q.Reach() != 1+3i {
		t.Fatal(q.Reach())
	}
	q.loads(1, 1)
	if q.Reach() != 1+3i { // what the Ack reached
		t.Fatal(q.Reach())
	}
	q.acks(0)
	q.finishes(1 + 4i)
	q.acks(1)
	if !q.Drained() || len(s.x.Dispatches()) != 0 {
		t.Fatal(s.x.Dispatches())
	}
}

// A dispatch behind the cursor is never gone by an Ack, and an alarm by none.
func TestAckLeavesTheRest(t *testing.T) {
	s := with(t, 2)
	s.adds(alarm(1))
	s.adds(dispatches(2)...)
	q := s.transfer()
	q.loads(3, 3)
	q.finishes(1+1i, 1+2i, 1+4i)
	q.acks(3)
	if l := s.x.Dispatches(); len(l) != 1 || l[0].ID != 1+5i || len(s.x.Alarms()) != 1 {
		t.Fatal(l, s.x.Alarms())
	}
}

// rows are orders in which so many may be finished.
func rows(many int) map[string][]int {
	var rising []int
	for n := 1; n <= many; n++ {
		rising = append(rising, n)
	}
	falling := slices.Clone(rising)
	slices.Reverse(falling)
	list := map[string][]int{"rising": rising, "falling": falling}
	for _, name := range []string{"any", "any other", "a third"} {
		row := slices.Clone(rising)
		rand.New(rand.NewSource(int64(len(name)))).Shuffle(many, func(i, j int) { row[i], row[j] = row[j], row[i] })
		list[name] = row
	}
	return list
}

// An Ack behind each: what is gone is just what stands ahead of the first pending one.
func TestFinishInAnyOrder(t *testing.T) {
	const many = 20
	for name, row := range rows(many) {
		for _, asked := range []bool{true, false} {
			s := with(t, many)
			q := s.transfer()
			q.loads(many, many)
			over, reach := make([]bool, many+2), 0
			for _, n := range row {
				q.finishes(id(n))
				over[n] = true
				was := reach
				for over[reach+1] {
					reach++
				}
				if got := int(imag(q.Reach())); got != reach {
					t.Fatal(name, n, got, reach)
				}
				if asked {
					q.acks(reach - was)
				}
			}
			if !asked {
				q.acks(many)
			}
			if !q.Drained() || s.x.Level() != id(many) {
				t.Fatal(name, s.x.Level())
			}
		}
	}
}

// All sets of finished ones, of a few.
func TestFinishOfEachSet(t *testing.T) {
	const many = 6
	for set := range 1 << many {
		s := with(t, many)
		q := s.transfer()
		q.loads(many, many)
		reach := 0
		for n := 1; n <= many; n++ {
			if set>>(n-1)&1 == 1 {
				q.finishes(id(n))
			}
		}
		for reach < many && set>>reach&1 == 1 {
			reach++
		}
		if got := q.Reach(); reach == 0 && got != 0 || reach > 0 && got != id(reach) {
			t.Fatal(set, got)
		}
		q.acks(reach)
		if l := s.x.Dispatches(); len(l) != many-reach {
			t.Fatal(set, l)
		}
		if again := s.transfer(); again.Load(many) != many-reach {
			t.Fatal(set)
		}
	}
}

func TestAckByAClosedHold(t *testing.T) {
	s := with(t, 4)
	q := s.transfer()
	q.loads(3, 3)
	q.finishes(1 + 1i)
	q.acks(1)
	q.finishes(1 + 2i)
	s.c.Release()
	q.refusesAck(api.ErrOwner)
	if q.Reach() != 1+2i {
		t.Fatal(q.Reach())
	}
	q.loads(9, 1) // what asks the hold for nothing goes on
	q.finishes(1 + 4i)
	q.refusesAck(api.ErrOwner)
	q.finishes(1 + 3i)
	q.refusesAck(api.ErrOwner)
	if !q.Drained() || q.Reach() != 1+4i || s.x.Level() != 1+1i {
		t.Fatal(q.Reach())
	}
	s.transfer().refusesAck(api.ErrOwner) // also with nothing to raise
}

func TestAckByAnEarlierHold(t *testing.T) {
	s := with(t, 4)
	q := s.transfer()
	q.loads(3, 3)
	q.finishes(1 + 1i)
	q.acks(1)
	old := s.c
	s.hold()
	q.acks(0) // it has nothing to raise, so nothing is asked of the store
	q.finishes(1+3i, 1+2i)
	if !old.Open() {
		t.Fatal("closed by what commits nothing")
	}
	q.refusesAck(api.ErrFence)
	if old.Open() || q.Reach() != 1+3i || s.x.Level() != 1+1i {
		t.Fatal(old.Open(), q.Reach())
	}
	q.refusesAck(api.ErrOwner)
	q.loads(9, 1)
	p := s.transfer()
	p.loads(9, 3)
	p.finishes(1+2i, 1+4i)
	p.acks(1)
	q.stands()
	q.refusesAck(api.ErrOwner)
}

// What the disk refuses is the answer; all that was remembered is, and the same Ack is taken when the trouble is over.
func TestAckInTrouble(t *testing.T) {
	for _, kind := range []int{0, 1, 2} {
		for after := 0; ; after++ {
			s := with(t, 4)
			q := s.transfer()
			q.loads(3, 3)
			q.finishes(1+1i, 1+3i)
			s.disk.Fail(after, kind)
			_, e := q.Ack()
			if e == api.OK {
				if after == 0 {
					t.Fatal("no operation was struck")
				}
				break
			}
			answers(t, e, api.ErrIO)
			q.stands()
			s.disk.Fail(0, kind)
			q.refusesAck(api.ErrIO)
			q.loads(9, 1)
			q.finishes(1 + 2i)
			s.disk.Fail(0, kind)
			q.refusesAck(api.ErrIO)
			q.acks(3)
		}
	}
	s := with(t, 2)
	q := s.transfer()
	q.loads(2, 2)
	q.finishes(1 + 1i)
	s.disk.Stop(0)
	q.refusesAck(api.ErrDead)
	q.finishes(1 + 2i)
	q.refusesAck(api.ErrDead)
	s.disk.Stop(math.MaxInt)
	q.acks(2)
}

func TestDrained(t *testing.T) {
	s := lay(t)
	q := s.transfer()
	is := func(want bool) {
		t.Helper()
		q.stands()
		if q.Drained() != want {
			t.Fatal(q.Drained())
		}
	}
	is(true)
	s.adds(alarm(1))
	is(true)
	s.adds(dispatches(2)...)
	is(false)
	q.loads(1, 1)
	is(false)
	q.finishes(1 + 2i)
	is(false) // 1+3i is to be loaded
	q.loads(1, 1)
	is(false)
	q.finishes(1 + 3i)
	is(true) // without an Ack
	q.acks(2)
	is(true)
	s.adds(dispatches(1)...)
	is(false)
}

// Two Transfers of one hold.
func TestTwoOfOneHold(t *testing.T) {
	s := with(t, 5)
	a, b := s.transfer(), s.transfer()
	a.loads(4, 4)
	b.stands()
	b.loads(2, 2)
	a.finishes(1+1i, 1+2i, 1+3i)
	b.stands()
	a.acks(3)
	b.stands() // pending, though they are gone
	b.loads(1, 1)
	if b.Cursor() != 1+4i {
		t.Fatal(b.Cursor())
	}
	b.finishes(1 + 1i)
	b.acks(0) // the Level is above its reach
	if s.x.Level() != 1+3i || b.Reach() != 1+1i {
		t.Fatal(s.x.Level(), b.Reach())
	}
	b.finishes(1+2i, 1+4i)
	b.acks(1)
	a.stands()
	a.finishes(1 + 4i)
	a.acks(0)
	a.loads(9, 1)
	b.loads(9, 1)
}

// Two Transfers of two holds: only the later one acks.
func TestTwoOfTwoHolds(t *testing.T) {
	s := with(t, 4)
	a := s.transfer()
	a.loads(2, 2)
	a.finishes(1 + 1i)
	s.hold()
	b := s.transfer()
	b.loads(9, 4)
	b.finishes(1 + 2i)
	a.refusesAck(api.ErrFence)
	b.acks(0)
	b.finishes(1 + 1i)
	b.acks(2)
	a.stands()
	a.loads(9, 2)
	a.finishes(1+4i, 1+3i, 1+2i)
	a.refusesAck(api.ErrOwner)
	b.stands()
	if l := s.x.Dispatches(); len(l) != 2 || s.x.Level() != 1+2i {
		t.Fatal(l)
	}
}

// P11.3: All

func TestAllIsStoppedAnywhere(t *testing.T) {
	s := with(t, 6)
	q := s.transfer()
	all := q.All()
	if len(slices.Collect(all)) != 0 {
		t.Fatal("nothing is loaded")
	}
	q.loads(5, 5)
	q.finishes(1+1i, 1+3i)
	for range 2 { // the same iterator, too
		for stop := range 4 {
			var told []api.Task
			for task := range all {
				if len(told) == stop {
					break
				}
				told = append(told, task)
			}
			if !slices.Equal(told, q.Pending()[:stop]) {
				t.Fatal(stop, told)
			}
			q.stands()
		}
	}
}

// What is told is what was pending when the ranging began, whatever is done meanwhile.
func TestAllWhileItChanges(t *testing.T) {
	for name, do := range map[string]func(s *site, q *watched, task api.Task){
		"Finish of the one told": func(s *site, q *watched, task api.Task) { q.finishes(task.ID) },
		"Finish of the one told, Ack": func(s *site, q *watched, task api.Task) {
			q.finishes(task.ID)
			_, e := q.Ack()
			answers(s.t, e, api.OK)
		},
		"Finish of all, Ack": func(s *site, q *watched, task api.Task) {
			for _, task := range q.Pending() {
				q.Finish(task.ID)
			}
			_, e := q.Ack()
			answers(s.t, e, api.OK)
		},
		"Load":   func(s *site, q *watched, task api.Task) { q.Load(1) },
		"Commit": func(s *site, q *watched, task api.Task) { s.adds(dispatches(1)...); q.Load(9) },
		"All": func(s *site, q *watched, task api.Task) {
			for range q.All() {
			}
		},
		"Finish of the last, Load": func(s *site, q *watched, task api.Task) {
			l := q.Pending()
			q.Finish(l[len(l)-1].ID)
			q.Load(1)
		},
	} {
		t.Run(name, func(t *testing.T) {
			s := with(t, 9)
			q := s.transfer()
			q.loads(5, 5)
			q.finishes(1 + 2i)
			want := q.Pending()
			var told []api.Task
			all := q.All()
			for task := range all {
				told = append(told, task)
				do(s, q, task)
			}
			if !slices.Equal(told, want) {
				t.Fatal(told)
			}
			if again := slices.Collect(all); !slices.Equal(again, q.Pending()) {
				t.Fatal(again)
			}
		})
	}
}

// R2

// Lists that are told are the caller's own, their spare room too.
func TestPendingIsTheCallersOwn(t *testing.T) {
	s := with(t, 7)
	q := s.transfer()
	spoil := func() {
		l := q.Pending()
		l = l[:cap(l)]
		for i := range l {
			l[i] = api.Task{Kind: 9, ID: 77, Flow: "spoilt"}
		}
		q.stands()
	}
	for most := range 4 {
		q.loads(most, most)
		spoil()
	}
	for _, n := range []int{3, 1, 6, 2} {
		q.finishes(id(n))
		spoil()
		q.acks(map[int]int{3: 0, 1: 1, 6: 0, 2: 2}[n])
		spoil()
	}
	s.adds(dispatches(3)...)
	q.loads(9, 4)
	first, second := q.Pending(), q.Pending()
	first[0] = api.Task{}
	if second[0] == (api.Task{}) {
		t.Fatal("two answers share memory")
	}
	spoil()
}

// Many dispatches, finished from both ends and from the middle.
func TestVeryMany(t *testing.T) {
	s := lay(t)
	task := api.Task{Kind: api.Dispatch}
	for range 3 {
		s.adds(slices.Repeat([]api.Task{task}, 6000)...)
	}
	q, e := queue.NewTransfer(s.x, s.c)
	answers(t, e, api.OK)
	const many = 18000
	if n := q.Load(math.MaxInt); n != many {
		t.Fatal(n)
	}
	for k := range many {
		n := k*7717%many + 1 // 7717 has no part in common with many: each comes once
		if !q.Finish(id(n)) || q.Finish(id(n)) {
			t.Fatal(n)
		}
	}
	if n, e := q.Ack(); n != many || e != api.OK || !q.Drained() || q.Reach() != id(many) {
		t.Fatal(n, e, q.Reach())
	}
}
