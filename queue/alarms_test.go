package queue_test

import (
	"math"
	"testing"

	"tiller/api"
	"tiller/queue"
	"tiller/shard"
)

// P11.4

func (s *site) alarmsBy(c *shard.Ctx) *queue.Alarms {
	s.t.Helper()
	a, e := queue.NewAlarms(s.x, c)
	answers(s.t, e, api.OK)
	return a
}

// due must be that task at that time.
func due(t testing.TB, a *queue.Alarms, now int, want api.Task) {
	t.Helper()
	if got, is := a.Due(now); !is || got != want {
		t.Fatalf("at %d is due %+v, %t, want %+v", now, got, is, want)
	}
}

// notDue must be all at these times.
func notDue(t testing.TB, a *queue.Alarms, times ...int) {
	t.Helper()
	for _, now := range times {
		if got, is := a.Due(now); is || got != (api.Task{}) {
			t.Fatalf("at %d is due %+v, %t", now, got, is)
		}
	}
}

// next must be that time; false without any.
func next(t testing.TB, a *queue.Alarms, want int, any bool) {
	t.Helper()
	if got, some := a.Next(); got != want || some != any {
		t.Fatalf("the next is at %d, %t, want %d, %t", got, some, want, any)
	}
}

func TestNoAlarms(t *testing.T) {
	s := with(t, 2) // dispatches are none
	a := s.alarmsBy(s.c)
	notDue(t, a, math.MinInt, -1, 0, 1, api.MaxTime, math.MaxInt)
	next(t, a, 0, false)
	for _, id := range append(notRight(), 0, 1, 1+1i, 1+2i, 1+3i, 2+1i) {
		answers(t, a.Finish(id), api.ErrNone)
	}
	if len(s.x.Dispatches()) != 2 {
		t.Fatal(s.x.Dispatches())
	}
}

func TestDue(t *testing.T) {
	for _, at := range []int{0, 1, 7, api.MaxTime, api.MaxNumber} {
		s := lay(t)
		a := s.alarmsBy(s.c)
		made := s.adds(alarm(at))[0]
		notDue(t, a, at-1, -1, math.MinInt)
		for _, now := range []int{at, at + 1, math.MaxInt} {
			due(t, a, now, made)
		}
		next(t, a, at, true)
		answers(t, a.Finish(made.ID), api.OK)
		notDue(t, a, at-1, at, at+1, math.MaxInt)
		next(t, a, 0, false)
	}
}

// By their times, then by their IDs, whichever came first.
func TestAlarmsInOrder(t *testing.T) {
	s := lay(t)
	a := s.alarmsBy(s.c)
	first := s.adds(alarm(9), dispatches(1)[0], alarm(5), alarm(9), alarm(256))
	s.hold()
	a = s.alarmsBy(s.c)
	second := s.adds(alarm(5), alarm(9), alarm(4), alarm(0))
	row := []api.Task{second[3], second[2], first[2], second[0], first[0], first[3], second[1], first[4]}
	for i, task := range row {
		next(t, a, task.At, true)
		notDue(t, a, task.At-1)
		due(t, a, task.At, task)
		due(t, a, math.MaxInt, task)
		due(t, a, math.MaxInt, task) // it stays till it is finished
		if len(s.x.Alarms()) != len(row)-i {
			t.Fatal(s.x.Alarms())
		}
		answers(t, a.Finish(task.ID), api.OK)
		answers(t, a.Finish(task.ID), api.ErrNone)
	}
	next(t, a, 0, false)
	if len(s.x.Dispatches()) != 1 {
		t.Fatal(s.x.Dispatches())
	}
}

// One that is not the first may be finished, too; and what comes later may be due earlier.
func TestFinishOfAnyAlarm(t *testing.T) {
	s := lay(t)
	a := s.alarmsBy(s.c)
	l := s.adds(alarm(1), alarm(2), alarm(3), dispatches(1)[0])
	answers(t, a.Finish(l[1].ID), api.OK)
	for _, id := range append(notRight(), 0, l[1].ID, l[3].ID, 1+5i, 2+1i) {
		answers(t, a.Finish(id), api.ErrNone)
	}
	due(t, a, 9, l[0])
	answers(t, a.Finish(l[0].ID), api.OK)
	next(t, a, 3, true)
	early := s.adds(alarm(0))[0]
	due(t, a, 9, early)
	next(t, a, 0, true)
}

// It has nothing of its own: two of them tell the same.
func TestTwoAlarms(t *testing.T) {
	s := lay(t)
	a, b := s.alarmsBy(s.c), s.alarmsBy(s.c)
	l := s.adds(alarm(1), alarm(2))
	due(t, a, 9, l[0])
	due(t, b, 9, l[0])
	answers(t, a.Finish(l[0].ID), api.OK)
	answers(t, b.Finish(l[0].ID), api.ErrNone)
	due(t, b, 9, l[1])
	answers(t, s.x.Drop(s.c, l[1].ID), api.OK)
	notDue(t, a, 9)
	next(t, b, 0, false)
}

// A hold that can't commit finishes nothing; what it tells is told all the same.
func TestAlarmsByWrongHolds(t *testing.T) {
	s := lay(t)
	a := s.alarmsBy(s.c)
	l := s.adds(alarm(1), alarm(2))
	s.hold()
	still := func() {
		t.Helper()
		due(t, a, 9, l[0])
		next(t, a, 1, true)
	}
	answers(t, a.Finish(1+7i), api.ErrNone) // it commits nothing, so the hold doesn't learn anything
	still()
	answers(t, a.Finish(l[0].ID), api.ErrFence)
	still()
	answers(t, a.Finish(l[0].ID), api.ErrOwner)
	answers(t, a.Finish(1+7i), api.ErrOwner)
	still()
	a = s.alarmsBy(s.c)
	s.c.Release()
	answers(t, a.Finish(l[0].ID), api.ErrOwner)
	still()
	a = s.alarmsBy(s.take(3))
	answers(t, a.Finish(l[0].ID), api.ErrArg)
	still()
}

func TestAlarmsInTrouble(t *testing.T) {
	s := lay(t)
	a := s.alarmsBy(s.c)
	task := s.adds(alarm(1))[0]
	s.disk.Fail(0, 2)
	answers(t, a.Finish(task.ID), api.ErrIO)
	due(t, a, 1, task)
	s.disk.Stop(0)
	answers(t, a.Finish(task.ID), api.ErrDead)
	answers(t, a.Finish(1), api.ErrNone)
	next(t, a, 1, true)
	s.disk.Stop(math.MaxInt)
	answers(t, a.Finish(task.ID), api.OK)
	notDue(t, a, 1)
	s.open()
	if l := s.x.Alarms(); len(l) != 0 {
		t.Fatal(l)
	}
}
