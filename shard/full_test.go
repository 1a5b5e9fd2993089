package shard

import (
	"testing"

	"tiller/api"
	"tiller/kv"
	"tiller/lease"
	"tiller/world"
)

// nearlyFull is a hold that can make so many IDs more; no test has the time to make the others.
func nearlyFull(t *testing.T, left int) *Ctx {
	t.Helper()
	x, _ := lease.Open(world.NewDisk())
	s, _ := kv.Open(world.NewDisk(), 0)
	c, e := Acquire(x, s, 0, 5)
	if e != api.OK {
		t.Fatal(e)
	}
	c.last += api.ID(complex(0, float64(api.MaxNumber-left)))
	return c
}

// P7.2

func TestNextOfAFullHold(t *testing.T) {
	c := nearlyFull(t, 3)
	for n := api.MaxNumber - 2; n <= api.MaxNumber; n++ {
		id, e := c.Next()
		if real(id) != 1 || int(imag(id)) != n || e != api.OK || c.Made() != n {
			t.Fatal(id, e, c.Made())
		}
	}
	for range 3 {
		if id, e := c.Next(); id != 0 || e != api.ErrFull || c.Made() != api.MaxNumber {
			t.Fatal(id, e, c.Made())
		}
	}
	if !c.Open() || !c.Renew() || c.Range() != 1 || c.Commit([]api.Op{{Key: "a"}}) != api.OK {
		t.Error("a full hold does not stand")
	}
	c.Release()
	if id, e := c.Next(); id != 0 || e != api.ErrOwner {
		t.Error("of a closed one:", id, e)
	}
}

func TestIDsOfAFullHold(t *testing.T) {
	c := nearlyFull(t, 4)
	told := 0
	for id := range c.IDs() {
		told++
		if int(imag(id)) != api.MaxNumber-4+told {
			t.Fatal(id)
		}
	}
	for id := range c.IDs() {
		t.Fatal("told behind the last one:", id)
	}
	if told != 4 || c.Made() != api.MaxNumber || !c.Open() {
		t.Error(told, c.Made())
	}
}
