package world_test

import (
	"math"
	"testing"

	"tiller/api"
	"tiller/world"
)

// P1.6

// tick ends the test if a Tick was answered otherwise, or the time is another one.
func tick(t *testing.T, c *world.Clock, n int, passed bool, now int) {
	t.Helper()
	if got := c.Tick(n); got != passed || c.Now() != now {
		t.Fatalf("Tick(%d) is %v and Now %d, want %v and %d", n, got, c.Now(), passed, now)
	}
}

func TestClock(t *testing.T) {
	c := world.NewClock()
	if c.Now() != 0 {
		t.Fatal(c.Now())
	}
	tick(t, c, 1, true, 1)
	tick(t, c, 41, true, 42)
	tick(t, c, 0, false, 42)
	tick(t, c, -1, false, 42)
	tick(t, c, -42, false, 42)
	tick(t, c, math.MinInt, false, 42)
	if other := world.NewClock(); other.Now() != 0 {
		t.Fatal("clocks know of each other:", other.Now())
	}
}

func TestEndOfTime(t *testing.T) {
	c := world.NewClock()
	tick(t, c, api.MaxTime+1, false, 0)
	tick(t, c, math.MaxInt, false, 0)
	tick(t, c, api.MaxTime-3, true, api.MaxTime-3)
	tick(t, c, 4, false, api.MaxTime-3)
	tick(t, c, math.MaxInt, false, api.MaxTime-3)
	tick(t, c, 3, true, api.MaxTime)
	tick(t, c, 1, false, api.MaxTime)
	tick(t, c, 0, false, api.MaxTime)

	c = world.NewClock()
	tick(t, c, api.MaxTime, true, api.MaxTime)
}
