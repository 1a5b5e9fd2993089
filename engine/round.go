package engine

import (
	"tiller/api"
	"tiller/xshard"
)

const mostLoads = 15 // PickLoad's n by which it loads the most

// turn is a pick of a fair round: how often it is done at most, and its n, which rises by one each time.
type turn struct{ what, times, n int }

// turns are what a host does for a shard in a fair round.
func (c *Cluster) turns() []turn {
	return []turn{
		{api.PickOwn, 1, 0},
		{api.PickLoad, 1, mostLoads},
		{api.PickAck, 1, 0},
		{api.PickFire, api.MaxFlows, 0},
		{api.PickMail, c.config.Shards, 0},
	}
}

// Round is one fair round.
func (c *Cluster) Round() int {
	done := 0
	turns := c.turns()
	for l := range c.up() {
	shards:
		for shard := range c.config.Shards {
		turns:
			for _, t := range turns {
				for k := range t.times {
					refusal := c.pick(l, t.what, shard, t.n+k)
					if refusal == api.OK {
						done++
					}
					if _, held := l.Range(shard); !held {
						continue shards
					}
					if refusal != api.OK && t.what == api.PickFire {
						continue turns
					}
				}
			}
		}
	}
	c.deliverAll()
	c.deliverAll() // what was answered meanwhile
	return done
}

// deliverAll delivers as many parcels as are under way. What is sent meanwhile comes behind them.
func (c *Cluster) deliverAll() {
	for range c.net.Len() {
		c.deliver(0)
	}
}

// Still: is there nothing left to be done?
func (c *Cluster) Still() bool {
	if c.net.Len() > 0 {
		return false
	}
shards:
	for n := range c.config.Shards {
		x := c.Exec(n)
		for to := range c.config.Shards {
			if _, waits := xshard.Next(x, to); waits {
				return false
			}
		}
		if alarms := x.Alarms(); len(alarms) > 0 && alarms[0].At <= c.Now() {
			return false
		}
		for l := range c.up() {
			if l.Settled(n) { // only the host knows: it may have been asked by itself, too
				continue shards
			}
		}
		return false
	}
	return true
}
