package shard_test

import (
	"fmt"
	"math"
	"math/rand"
	"strings"
	"testing"

	"tiller/api"
	"tiller/shard"
	"tiller/world"
)

// stops is the kind of a trouble that is no fault, but a stop.
const stops = -1

// meets lays a trouble on a disk, behind some operations.
func meets(d *world.Disk, after, kind int) {
	if kind == stops {
		d.Stop(after)
		return
	}
	d.Fail(after, kind)
}

// refusal is what a disk answers when it meets that kind.
func refusal(kind int) api.Errno {
	if kind == stops {
		return api.ErrDead
	}
	return api.ErrIO
}

// heals: no trouble is left on a disk, without a crash.
func heals(d *world.Disk) {
	d.Stop(math.MaxInt)
}

// past is what happened to shard 2 ahead of a try; it tells the hold that stands, or none.
type past func(p *place) *shard.Ctx

// held are those behind which a hold stands: of owner 6, and of owner 5 behind another one.
func held() map[string]past {
	return map[string]past{
		"of 6": func(p *place) *shard.Ctx {
			return p.take(2, 6)
		},
		"of 5": func(p *place) *shard.Ctx {
			p.take(2, 6)
			return p.take(2, 5)
		},
	}
}

// pasts are those, and two behind which nobody holds.
func pasts() map[string]past {
	all := held()
	all["new"] = func(p *place) *shard.Ctx { return nil }
	all["given back"] = func(p *place) *shard.Ctx {
		c := p.take(2, 6)
		answers(p.t, c.Commit(put("a")), api.OK)
		answers(p.t, c.Release(), api.OK)
		return nil
	}
	return all
}

// everywhere tries something with a trouble of each kind at each operation of a disk, behind each past, till there is none left to strike. The try tells whether the trouble was met.
func everywhere(t *testing.T, disk func(p *place) *world.Disk, pasts map[string]past, try func(p *place, was *shard.Ctx, kind int) bool) {
	t.Helper()
	for name, past := range pasts {
		for _, kind := range []int{0, 1, 2, stops} {
			met := true
			for after := 0; met; after++ {
				t.Run(fmt.Sprintf("%s, kind %d, operation %d", name, kind, after), func(t *testing.T) {
					met = false // also where the try ends the test
					p := lay(t)
					was := past(p)
					meets(disk(p), after, kind)
					met = try(p, was, kind)
					if !met && after == 0 {
						t.Error("no operation was struck")
					}
				})
			}
		}
	}
}

func ofTable(p *place) *world.Disk { return p.tableDisk }

func ofStore(p *place) *world.Disk { return p.storeDisk }

// stillHolds ends the test if a hold does not stand as it did: the Acquire that was refused has not reached the fence.
func (p *place) stillHolds(c *shard.Ctx, leased bool) {
	p.t.Helper()
	if c == nil {
		return
	}
	answers(p.t, c.Commit(put("still")), api.OK)
	if !c.Open() || c.Renew() != leased || c.Open() != leased {
		p.t.Fatalf("open: %t; its lease is the shard's: %t", c.Open(), leased)
	}
}

// P7.1: what Swap refuses leaves all as it was; the store is not even asked.
func TestAcquireWithTroubleOfTheTable(t *testing.T) {
	everywhere(t, ofTable, pasts(), func(p *place, was *shard.Ctx, kind int) bool {
		stood := p.stands()
		c, e := shard.Acquire(p.table, p.store, 2, 5)
		if e == api.OK {
			return false
		}
		if c != nil || e != refusal(kind) {
			p.t.Fatalf("Acquire is %v, %d", c, e)
		}
		stood.tableOps = p.tableDisk.Ops()
		p.still(stood)
		p.stillHolds(was, true)
		heals(p.tableDisk)
		number := stood.leases[2].Range + 1
		wants(p.t, p.take(2, 5), hold{true, 2, 5, number, 0})
		return true
	})
}

// P7.1: what Raise refuses leaves the lease taken, and the fence as it was.
func TestAcquireWithTroubleOfTheStore(t *testing.T) {
	everywhere(t, ofStore, pasts(), func(p *place, was *shard.Ctx, kind int) bool {
		stood := p.stands()
		c, e := shard.Acquire(p.table, p.store, 2, 5)
		if e == api.OK {
			return false
		}
		if c != nil || e != refusal(kind) {
			p.t.Fatalf("Acquire is %v, %d", c, e)
		}
		number := stood.leases[2].Range + 1
		stood.leases[2] = api.Lease{Owner: 5, Range: number}
		stood.swaps++
		stood.tableOps, stood.storeOps = p.tableDisk.Ops(), p.storeDisk.Ops()
		p.still(stood)
		heals(p.storeDisk)
		p.stillHolds(was, false)
		wants(p.t, p.take(2, 5), hold{true, 2, 5, number + 1, 0})
		return true
	})
}

// Behind a refused Acquire and a crash, whatever the disk is left with: the next hold's range is above all that were given, and nothing that was committed is lost.
func TestAcquireBehindACrash(t *testing.T) {
	for name, disk := range map[string]func(*place) *world.Disk{"table": ofTable, "store": ofStore} {
		for cut := range 12 {
			t.Run(fmt.Sprint(name, cut), func(t *testing.T) {
				everywhere(t, disk, pasts(), func(p *place, was *shard.Ctx, kind int) bool {
					stood := p.stands()
					c, e := shard.Acquire(p.table, p.store, 2, 5)
					disk(p).Crash([]int{cut, cut, cut, cut})
					p.open()
					if e != api.OK {
						answers(p.t, e, refusal(kind))
					}
					given := stood.leases[2].Range
					if e == api.OK {
						given = c.Range()
					}
					if next := p.take(2, 7); next.Range() <= given || next.Range() > given+2 || p.pairs() != stood.pairs {
						p.t.Fatalf("behind %d the range is %d, the store has %s", given, next.Range(), p.pairs())
					}
					return e != api.OK
				})
			})
		}
	}
}

// P7.3: a batch that the disk refuses closes nothing, and is not there.
func TestCommitWithTrouble(t *testing.T) {
	everywhere(t, ofStore, held(), func(p *place, was *shard.Ctx, kind int) bool {
		heldBefore, stood := told(was), p.stands()
		e := was.Commit([]api.Op{{Key: "x", Value: "1"}, {Key: "y", Value: "2"}})
		if e == api.OK {
			return false
		}
		answers(p.t, e, refusal(kind))
		stood.storeOps = p.storeDisk.Ops()
		p.still(stood)
		wants(p.t, was, heldBefore)
		if !was.Renew() {
			p.t.Fatal("a refused batch has cost the lease")
		}
		heals(p.storeDisk)
		answers(p.t, was.Commit(put("x")), api.OK)
		return true
	})
}

// P7.3: a Release closes, whatever the disk answers; if it refuses, the lease is what it was.
func TestReleaseWithTrouble(t *testing.T) {
	everywhere(t, ofTable, held(), func(p *place, was *shard.Ctx, kind int) bool {
		heldBefore, stood := told(was), p.stands()
		e := was.Release()
		if e == api.OK {
			return false
		}
		answers(p.t, e, refusal(kind))
		stood.tableOps = p.tableDisk.Ops()
		p.still(stood)
		p.isClosed(was, heldBefore)
		heals(p.tableDisk)
		p.isClosed(was, heldBefore)
		wants(p.t, p.take(2, 5), hold{true, 2, 5, heldBefore.number + 1, 0})
		return true
	})
}

// What asks nothing of a disk is as ever, though both are stopped.
func TestHoldOnStoppedDisks(t *testing.T) {
	p := lay(t)
	c := p.take(2, 5)
	p.tableDisk.Stop(0)
	p.storeDisk.Stop(0)
	was := p.stands()
	makes(t, c, 1, 3)
	answers(t, c.Commit(nil), api.OK)
	answers(t, c.Commit(wrongOps()[0]), api.ErrForm)
	if !c.Renew() {
		t.Fatal("not renewed")
	}
	p.still(was)
	answers(t, c.Commit(put("a")), api.ErrDead)
	wants(t, c, hold{true, 2, 5, 1, 3})
	answers(t, c.Release(), api.ErrDead)
	p.leased(2, 5, 1, 1)
	p.isClosed(c, hold{false, 2, 5, 1, 3})
}

// witness follows all holds of one shard that were ever taken, through troubles and crashes, and holds them to the promises.
type witness struct {
	*place
	r     *rand.Rand
	holds []*shard.Ctx // of the time since the last crash
	want  []hold       // what each of them tells
	lease api.Lease
	fence int
	pairs map[string]string
	ill   bool // a trouble may wait
	ids   map[api.ID]int
	given int // the greatest range of a hold, ever
	last  int // the range of the last batch
	story []string
}

func (w *witness) fatal(what ...any) {
	w.t.Helper()
	w.t.Fatalf("%s\nbehind %s", fmt.Sprintln(what...), strings.Join(w.story, "; "))
}

func (w *witness) tell(what ...any) {
	w.story = append(w.story, strings.TrimSpace(fmt.Sprintln(what...)))
}

// refused: has the disk refused it, as only one with a trouble may?
func (w *witness) refused(e api.Errno) bool {
	w.t.Helper()
	if (e == api.ErrIO || e == api.ErrDead) && !w.ill {
		w.fatal("refused without a trouble:", e)
	}
	return e == api.ErrIO || e == api.ErrDead
}

func (w *witness) acquire() {
	owner := w.r.Intn(3)
	c, e := shard.Acquire(w.table, w.store, 2, owner)
	w.tell("Acquire", owner, e)
	next := api.Lease{Owner: owner, Range: w.lease.Range + 1}
	if w.table.Holds(2, next) {
		w.lease = next
	}
	if w.refused(e) {
		if c != nil {
			w.fatal("a hold beside a refusal")
		}
		return
	}
	if e != api.OK || w.lease != next || next.Range <= w.given {
		w.fatal("acquired:", e, w.lease, w.given)
	}
	w.fence, w.given = next.Range, next.Range
	w.holds, w.want = append(w.holds, c), append(w.want, hold{true, 2, owner, next.Range, 0})
}

// next makes IDs of any hold that was taken since the crash.
func (w *witness) next(at int) {
	for id := range w.holds[at].IDs() {
		w.want[at].made++
		w.tell("ID", id)
		if w.ids[id]++; w.ids[id] > 1 || id != api.ID(complex(float64(w.want[at].number), float64(w.want[at].made))) {
			w.fatal("made:", id)
		}
		if w.r.Intn(2) == 0 {
			return
		}
	}
	if w.want[at].open {
		w.fatal("an open hold makes no IDs")
	}
}

func (w *witness) commit(at int) {
	key, value := fmt.Sprint("k", w.r.Intn(5)), fmt.Sprint(len(w.story))
	e := w.holds[at].Commit([]api.Op{{Key: key, Value: value}, {Key: "last", Value: value}})
	w.tell("Commit of", w.want[at].number, e)
	switch {
	case !w.want[at].open:
		answers(w.t, e, api.ErrOwner)
	case w.want[at].number != w.fence:
		answers(w.t, e, api.ErrFence)
		w.want[at].open = false
	case w.refused(e):
	default:
		answers(w.t, e, api.OK)
		w.pairs[key], w.pairs["last"] = value, value
		if w.want[at].number < w.last || at != len(w.holds)-1 {
			w.fatal("a batch of", w.want[at].number, "behind one of", w.last)
		}
		w.last = w.want[at].number
	}
}

func (w *witness) isLeased(at int) bool {
	return w.want[at].open && w.lease == api.Lease{Owner: w.want[at].owner, Range: w.want[at].number}
}

func (w *witness) renew(at int) {
	due := w.isLeased(at)
	got := w.holds[at].Renew()
	w.tell("Renew of", w.want[at].number, got)
	if got != due {
		w.fatal("want", due)
	}
	w.want[at].open = due
}

func (w *witness) release(at int) {
	due := w.isLeased(at)
	e := w.holds[at].Release()
	w.tell("Release of", w.want[at].number, e)
	switch {
	case !w.want[at].open:
		answers(w.t, e, api.ErrOwner)
	case !due:
		answers(w.t, e, api.ErrFence)
	case !w.refused(e):
		answers(w.t, e, api.OK)
		w.lease.Owner = -1
	}
	w.want[at].open = false
}

func (w *witness) trouble() {
	d := w.tableDisk
	if w.r.Intn(2) == 0 {
		d = w.storeDisk
	}
	after, kind := w.r.Intn(14), w.r.Intn(4)-1
	w.tell("trouble", d == w.tableDisk, after, kind)
	meets(d, after, kind)
	w.ill = true
}

// crash crashes both disks. Which of the refused calls they are left with is the lower layers' to say; holds of before are gone.
func (w *witness) crash() {
	cuts := []int{w.r.Intn(40), w.r.Intn(40), w.r.Intn(40)}
	w.tell("crash", cuts)
	w.tableDisk.Crash(cuts)
	w.storeDisk.Crash(cuts)
	w.open()
	lease, _ := w.table.Get(2)
	if lease.Range < w.lease.Range || w.store.Fence() < w.fence || w.store.Fence() > lease.Range {
		w.fatal("lease", lease, "fence", w.store.Fence())
	}
	w.lease, w.fence, w.ill = lease, w.store.Fence(), false
	w.holds, w.want = nil, nil
	w.pairs = map[string]string{}
	for key, value := range w.store.Scan("", "") {
		w.pairs[key] = value
	}
}

// check: all that can be told is as it must be.
func (w *witness) check() {
	w.t.Helper()
	for at, c := range w.holds {
		if got := told(c); got != w.want[at] {
			w.fatal("hold", got, "want", w.want[at])
		}
	}
	if got, _ := w.table.Get(2); got != w.lease || w.store.Fence() != w.fence || w.store.Len() != len(w.pairs) {
		w.fatal("lease", got, "want", w.lease, "fence", w.store.Fence(), "want", w.fence, "keys", w.store.Len())
	}
	for key, value := range w.pairs {
		if got, _ := w.store.Get(key); got != value {
			w.fatal(key, "is", got, "want", value)
		}
	}
}

func (w *witness) step() {
	kind := w.r.Intn(30)
	switch {
	case kind < 6:
		w.acquire()
	case kind < 8:
		w.trouble()
	case kind < 9:
		w.crash()
	case len(w.holds) == 0:
	case kind < 14:
		w.next(w.r.Intn(len(w.holds)))
	case kind < 22:
		w.commit(w.r.Intn(len(w.holds)))
	case kind < 24:
		w.commit(len(w.holds) - 1)
	case kind < 27:
		w.renew(w.r.Intn(len(w.holds)))
	default:
		w.release(w.r.Intn(len(w.holds)))
	}
}

// P7.5, W2
func TestManyHoldsThroughTroublesAndCrashes(t *testing.T) {
	ids := 0
	for seed := range 400 {
		w := &witness{place: lay(t), r: rand.New(rand.NewSource(int64(seed))), lease: api.Lease{Owner: -1}, pairs: map[string]string{}, ids: map[api.ID]int{}}
		for range 120 {
			w.step()
			w.check()
		}
		ids += len(w.ids)
	}
	if ids < 400 {
		t.Error("too few IDs:", ids)
	}
}

// P7.5: behind a crash of both disks too no ID comes twice, and later ones are greater.
func TestIDsBehindCrashes(t *testing.T) {
	p := lay(t)
	var made []api.ID
	for n := range 60 {
		if n%3 == 1 {
			meets(p.tableDisk, n%11, n%4-1)
		}
		if n%3 == 2 {
			meets(p.storeDisk, n%11, n%4-1)
		}
		if c, e := shard.Acquire(p.table, p.store, 2, n); e == api.OK {
			for range 1 + n%3 {
				id, _ := c.Next()
				made = append(made, id)
			}
			c.Commit(put("a"))
		}
		p.tableDisk.Crash([]int{n, n, n})
		p.storeDisk.Crash([]int{n, n, n})
		p.open()
	}
	rise(t, made)
	if len(made) < 40 {
		t.Error("too few:", len(made))
	}
}
