package world

import "tiller/api"

// Clock is the time.
type Clock struct {
	now int
}

// NewClock makes one.
func NewClock() *Clock {
	return &Clock{}
}

// Now is the time.
func (c *Clock) Now() int {
	return c.now
}

// Tick lets time pass, if there is so much left of it.
func (c *Clock) Tick(n int) bool {
	if n < 1 || n > api.MaxTime-c.now {
		return false
	}
	c.now += n
	return true
}
