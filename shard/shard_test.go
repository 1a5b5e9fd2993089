package shard_test

import (
	"fmt"
	"math"
	"slices"
	"strings"
	"testing"

	"tiller/api"
	"tiller/codec"
	"tiller/kv"
	"tiller/lease"
	"tiller/shard"
	"tiller/world"
)

const lastOwner = api.MaxNumber / 2

// place is a table and a store, each on a disk of its own.
type place struct {
	t                    *testing.T
	tableDisk, storeDisk *world.Disk
	table                *lease.Table
	store                *kv.Store
}

func lay(t *testing.T) *place {
	t.Helper()
	p := &place{t: t, tableDisk: world.NewDisk(), storeDisk: world.NewDisk()}
	p.open()
	return p
}

// open opens both anew, as one must behind a crash.
func (p *place) open() {
	p.t.Helper()
	var e, f api.Errno
	p.table, e = lease.Open(p.tableDisk)
	p.store, f = kv.Open(p.storeDisk, 3)
	if e != api.OK || f != api.OK {
		p.t.Fatal(e, f)
	}
}

// standing is all that can be told of a place.
type standing struct {
	leases             [api.MaxShards]api.Lease
	fence              int
	pairs              string
	swaps, commits     int
	tableOps, storeOps int
}

func (p *place) stands() standing {
	var leases [api.MaxShards]api.Lease
	for n, l := range p.table.All() {
		leases[n] = l
	}
	return standing{leases, p.store.Fence(), p.pairs(), p.table.Swaps(), p.store.Commits(), p.tableDisk.Ops(), p.storeDisk.Ops()}
}

func (p *place) pairs() string {
	var text strings.Builder
	for key, value := range p.store.Scan("", "") {
		fmt.Fprintf(&text, "%q=%q ", key, value)
	}
	return text.String()
}

// still ends the test if anything has changed.
func (p *place) still(was standing) {
	p.t.Helper()
	if got := p.stands(); got != was {
		p.t.Fatalf("it stands so:\n%+v\nwant\n%+v", got, was)
	}
}

func (p *place) lease(n int) api.Lease {
	p.t.Helper()
	l, e := p.table.Get(n)
	answers(p.t, e, api.OK)
	return l
}

// leased ends the test if a shard's lease, or the fence, is another.
func (p *place) leased(n, owner, number, fence int) {
	p.t.Helper()
	if got, want := p.lease(n), (api.Lease{Owner: owner, Range: number}); got != want || p.store.Fence() != fence {
		p.t.Fatalf("the lease of %d is %v, the fence %d; want %v, %d", n, got, p.store.Fence(), want, fence)
	}
}

// take acquires, which must be OK: the lease and the fence are the hold's, nothing else has changed.
func (p *place) take(n, owner int) *shard.Ctx {
	p.t.Helper()
	was := p.stands()
	c, e := shard.Acquire(p.table, p.store, n, owner)
	if c == nil || e != api.OK {
		p.t.Fatalf("Acquire(%d, %d) is %v, %d", n, owner, c, e)
	}
	number := was.leases[n].Range + 1
	wants(p.t, c, hold{true, n, owner, number, 0})
	was.leases[n] = api.Lease{Owner: owner, Range: number}
	was.fence = number
	was.swaps++
	was.commits++
	was.tableOps, was.storeOps = p.tableDisk.Ops(), p.storeDisk.Ops()
	p.still(was)
	return c
}

// hold is all that a Ctx tells.
type hold struct {
	open                       bool
	shard, owner, number, made int
}

func told(c *shard.Ctx) hold {
	return hold{c.Open(), c.Shard(), c.Owner(), c.Range(), c.Made()}
}

// closed is the same hold, but not open.
func (h hold) closed() hold {
	h.open = false
	return h
}

func wants(t *testing.T, c *shard.Ctx, want hold) {
	t.Helper()
	if got := told(c); got != want {
		t.Fatalf("the hold is %+v, want %+v", got, want)
	}
}

func answers(t *testing.T, got, want api.Errno) {
	t.Helper()
	if got != want {
		t.Fatalf("answered %d, want %d", got, want)
	}
}

// refuses ends the test if Acquire is not refused so, or if that changes anything or touches a disk.
func (p *place) refuses(x *lease.Table, s *kv.Store, n, owner int, refusal api.Errno) {
	p.t.Helper()
	was := p.stands()
	c, e := shard.Acquire(x, s, n, owner)
	if c != nil || e != refusal {
		p.t.Fatalf("Acquire(%t, %t, %d, %d) is %v, %d; want none, %d", x != nil, s != nil, n, owner, c, e, refusal)
	}
	p.still(was)
}

// makes ends the test if the hold's next IDs are not range + n i, from that n on.
func makes(t *testing.T, c *shard.Ctx, from, many int) {
	t.Helper()
	for n := from; n < from+many; n++ {
		id, e := c.Next()
		if want := api.ID(complex(float64(c.Range()), float64(n))); id != want || e != api.OK || c.Made() != n {
			t.Fatalf("Next is %v, %d, made are %d; want %v", id, e, c.Made(), want)
		}
	}
}

// isClosed ends the test if a closed hold still does something. What it tells beside Open is what it told when it was open.
func (p *place) isClosed(c *shard.Ctx, was hold) {
	p.t.Helper()
	stood := p.stands()
	for range 2 {
		wants(p.t, c, was.closed())
		if id, e := c.Next(); id != 0 || e != api.ErrOwner {
			p.t.Fatalf("Next of a closed one is %v, %d", id, e)
		}
		for id := range c.IDs() {
			p.t.Fatalf("a closed one tells %v", id)
		}
		for _, ops := range append(wrongOps(), nil, put("x")) {
			answers(p.t, c.Commit(ops), api.ErrOwner)
		}
		if c.Renew() {
			p.t.Fatal("a closed one is renewed")
		}
		answers(p.t, c.Release(), api.ErrOwner)
	}
	wants(p.t, c, was.closed())
	p.still(stood)
}

func put(key string) []api.Op {
	return []api.Op{{Key: key, Value: "of " + key}}
}

// wrongOps are changes that a store refuses by their form.
func wrongOps() [][]api.Op {
	return [][]api.Op{
		{{}},
		{{Key: "a", Value: "1"}, {Key: "", Value: "1"}},
		{{Key: strings.Repeat("k", 201)}},
		{{Key: "a", Value: strings.Repeat("v", 65537)}},
		{{Key: "a", Value: "1", Gone: true}},
	}
}

// large are changes that are right one by one, but too many bytes together.
func large() []api.Op {
	var ops []api.Op
	for n := range 20 {
		ops = append(ops, api.Op{Key: fmt.Sprint("k", n), Value: strings.Repeat("v", 65536)})
	}
	return ops
}

// reaches lets a shard have a range that no test has the time for, by what the table's store has instead of a lease that was given.
func (p *place) reaches(n, number int) {
	p.t.Helper()
	given, e := p.table.Swap(n, p.lease(n), 77)
	answers(p.t, e, api.OK)
	raw, _ := codec.Lease(given)
	other, e := codec.Lease(api.Lease{Owner: 77, Range: number})
	answers(p.t, e, api.OK)
	s, _ := kv.Open(p.tableDisk, 0)
	for key, value := range s.Scan("", "") {
		if value == string(raw) {
			answers(p.t, s.Commit(s.Fence(), []api.Op{{Key: key, Value: string(other)}}), api.OK)
		}
	}
	p.open()
	p.leased(n, 77, number, p.store.Fence())
}

// closings are the ways in which a hold closes; each closes one that is open.
func closings() map[string]func(p *place, c *shard.Ctx) {
	return map[string]func(p *place, c *shard.Ctx){
		"Release": func(p *place, c *shard.Ctx) {
			answers(p.t, c.Release(), api.OK)
		},
		"Release of what was taken": func(p *place, c *shard.Ctx) {
			p.take(c.Shard(), 90)
			answers(p.t, c.Release(), api.ErrFence)
		},
		"Release that the disk refuses": func(p *place, c *shard.Ctx) {
			p.tableDisk.Fail(0, 0)
			answers(p.t, c.Release(), api.ErrIO)
		},
		"Renew of what was taken": func(p *place, c *shard.Ctx) {
			p.take(c.Shard(), 90)
			if c.Renew() {
				p.t.Fatal("renewed")
			}
		},
		"Commit of what was taken": func(p *place, c *shard.Ctx) {
			p.take(c.Shard(), 90)
			answers(p.t, c.Commit(put("late")), api.ErrFence)
		},
	}
}

// P7.1

func TestAcquire(t *testing.T) {
	for _, n := range []int{0, 1, 2, 14, api.MaxShards - 1} {
		for _, owner := range []int{0, 1, 5, lastOwner - 1, lastOwner} {
			p := lay(t)
			c := p.take(n, owner)
			wants(t, c, hold{true, n, owner, 1, 0})
			p.leased(n, owner, 1, 1)
		}
	}
}

func TestAcquireWithoutTableOrStore(t *testing.T) {
	p := lay(t)
	p.take(1, 5)
	for _, n := range []int{-1, 0, 1, api.MaxShards - 1, api.MaxShards} {
		for _, owner := range []int{-1, 0, 5, lastOwner, lastOwner + 1} {
			p.refuses(nil, p.store, n, owner, api.ErrArg)
			p.refuses(p.table, nil, n, owner, api.ErrArg)
			p.refuses(nil, nil, n, owner, api.ErrArg)
		}
	}
}

func TestAcquireOfWrongShardsAndOwners(t *testing.T) {
	p := lay(t)
	p.take(1, 5)
	for _, n := range []int{math.MinInt, -api.MaxShards, -1, api.MaxShards, api.MaxShards + 1, 1 << 32, math.MaxInt} {
		for _, owner := range []int{math.MinInt, -1, 0, 5, lastOwner, lastOwner + 1, math.MaxInt} {
			p.refuses(p.table, p.store, n, owner, api.ErrArg)
		}
	}
	for _, n := range []int{0, 1, api.MaxShards - 1} {
		for _, owner := range []int{math.MinInt, -2, -1, lastOwner + 1, api.MaxNumber, math.MaxInt} {
			p.refuses(p.table, p.store, n, owner, api.ErrArg)
		}
	}
}

// A wrong call is ErrArg, whatever the disks would say.
func TestAcquireOfWrongOnesOnStoppedDisks(t *testing.T) {
	p := lay(t)
	p.tableDisk.Stop(0)
	p.storeDisk.Stop(0)
	p.refuses(nil, p.store, 0, 1, api.ErrArg)
	p.refuses(p.table, nil, 0, 1, api.ErrArg)
	p.refuses(p.table, p.store, api.MaxShards, 1, api.ErrArg)
	p.refuses(p.table, p.store, 0, -1, api.ErrArg)
}

func TestAcquireOfAShardThatAnotherHolds(t *testing.T) {
	p := lay(t)
	a := p.take(2, 5)
	b := p.take(2, 6)
	wants(t, a, hold{true, 2, 5, 1, 0})
	wants(t, b, hold{true, 2, 6, 2, 0})
	p.leased(2, 6, 2, 2)
}

func TestAcquireOfAShardThatTheSameOwnerHolds(t *testing.T) {
	p := lay(t)
	a := p.take(2, 5)
	b := p.take(2, 5)
	p.leased(2, 5, 2, 2)
	if a.Renew() || !b.Renew() {
		t.Error("one owner's holds are not one")
	}
}

func TestAcquireOfAShardThatWasGivenBack(t *testing.T) {
	p := lay(t)
	answers(t, p.take(2, 5).Release(), api.OK)
	p.leased(2, -1, 1, 1)
	wants(t, p.take(2, 5), hold{true, 2, 5, 2, 0})
	answers(t, p.table.Free(2, p.lease(2)), api.OK)
	wants(t, p.take(2, 7), hold{true, 2, 7, 3, 0})
}

// A range that is given out is the table's, not the hold's own count.
func TestAcquireBehindSwapsOfOthers(t *testing.T) {
	p := lay(t)
	p.take(2, 5)
	for owner := range 4 {
		if _, e := p.table.Swap(2, p.lease(2), owner); e != api.OK {
			t.Fatal(e)
		}
	}
	wants(t, p.take(2, 5), hold{true, 2, 5, 6, 0})
}

func TestAcquireOfTheLastRange(t *testing.T) {
	p := lay(t)
	p.reaches(4, api.MaxNumber-1)
	c := p.take(4, 6)
	wants(t, c, hold{true, 4, 6, api.MaxNumber, 0})
	makes(t, c, 1, 3)
	answers(t, c.Commit(put("a")), api.OK)
	p.refuses(p.table, p.store, 4, 7, api.ErrFull)
	p.refuses(p.table, p.store, 4, -1, api.ErrArg)
	if !c.Renew() {
		t.Error("a refused Acquire has ended a hold")
	}
	answers(t, c.Release(), api.OK)
	p.refuses(p.table, p.store, 4, 7, api.ErrFull)
}

// Where the store refuses, the lease stays taken, so that tries come to a range that is above the fence at last.
func TestAcquireBehindAGreaterFence(t *testing.T) {
	p := lay(t)
	answers(t, p.store.Raise(3), api.OK)
	for number := 1; number <= 3; number++ {
		was := p.stands()
		c, e := shard.Acquire(p.table, p.store, 0, 40+number)
		if c != nil || e != api.ErrFence {
			t.Fatalf("Acquire under %d is %v, %d", number, c, e)
		}
		was.leases[0] = api.Lease{Owner: 40 + number, Range: number}
		was.swaps++
		was.tableOps = p.tableDisk.Ops()
		p.still(was)
	}
	wants(t, p.take(0, 44), hold{true, 0, 44, 4, 0})
}

func TestAcquireTouchesNoOtherShard(t *testing.T) {
	p := lay(t)
	var holds []*shard.Ctx
	for n := range api.MaxShards {
		s, e := kv.Open(world.NewDisk(), n)
		answers(t, e, api.OK)
		c, e := shard.Acquire(p.table, s, n, 100+n)
		if c == nil || e != api.OK || s.Fence() != 1 {
			t.Fatal(n, e)
		}
		holds = append(holds, c)
	}
	for n, c := range holds {
		makes(t, c, 1, n)
		if !c.Renew() || c.Commit(put("a")) != api.OK {
			t.Fatalf("the hold of %d does not stand", n)
		}
		wants(t, c, hold{true, n, 100 + n, 1, n})
	}
}

// P7.2

func TestNext(t *testing.T) {
	p := lay(t)
	a := p.take(0, 5)
	was := p.stands()
	makes(t, a, 1, 2000)
	p.still(was)
	wants(t, a, hold{true, 0, 5, 1, 2000})
}

func TestNextOfRangesThatFollowEachOther(t *testing.T) {
	p := lay(t)
	for number := 1; number <= 30; number++ {
		c := p.take(6, number%3)
		if c.Range() != number {
			t.Fatal(c.Range(), number)
		}
		makes(t, c, 1, number%4)
	}
}

// The document's first run; and an open hold makes IDs of its own range, though another one was taken.
func TestNextOfTwo(t *testing.T) {
	p := lay(t)
	a := p.take(0, 5)
	makes(t, a, 1, 2)
	b := p.take(0, 6)
	if id, e := b.Next(); id != 2+1i || e != api.OK {
		t.Fatal(id, e)
	}
	if id, e := a.Next(); id != 1+3i || e != api.OK {
		t.Fatal(id, e)
	}
	makes(t, b, 2, 5)
	makes(t, a, 4, 5)
}

// IDs hang on no batch: one that is refused neither takes nor gives back any.
func TestNextBesideCommits(t *testing.T) {
	p := lay(t)
	c := p.take(0, 5)
	makes(t, c, 1, 2)
	answers(t, c.Commit(put("a")), api.OK)
	answers(t, c.Commit(wrongOps()[0]), api.ErrForm)
	p.storeDisk.Fail(0, 0)
	answers(t, c.Commit(put("b")), api.ErrIO)
	makes(t, c, 3, 2)
}

func TestIDsStoppedAnywhere(t *testing.T) {
	for stop := 1; stop <= 12; stop++ {
		p := lay(t)
		c := p.take(0, 5)
		was := p.stands()
		var got, want []api.ID
		for id := range c.IDs() {
			got = append(got, id)
			want = append(want, api.ID(complex(1, float64(len(got)))))
			if len(got) == stop {
				break
			}
		}
		if !slices.Equal(got, want) || c.Made() != stop {
			t.Fatalf("told %v, made %d; want %v", got, c.Made(), want)
		}
		p.still(was)
		makes(t, c, stop+1, 2)
	}
}

func TestIDsAgain(t *testing.T) {
	c := lay(t).take(0, 5)
	ids := c.IDs()
	if c.Made() != 0 {
		t.Fatal("IDs makes one that nobody asks for")
	}
	for n := 1; n <= 9; n++ {
		for id := range ids {
			if id != api.ID(complex(1, float64(n))) {
				t.Fatal(id, n)
			}
			break
		}
	}
	makes(t, c, 10, 1)
}

// Who ranges may ask the same hold for IDs meanwhile, by Next or by a second ranging.
func TestIDsWithinIDs(t *testing.T) {
	c := lay(t).take(0, 5)
	var got []int
	for id := range c.IDs() {
		got = append(got, int(imag(id)))
		other, _ := c.Next()
		got = append(got, int(imag(other)))
		for id := range c.IDs() {
			got = append(got, int(imag(id)))
			break
		}
		if len(got) >= 12 {
			break
		}
	}
	if !slices.Equal(got, []int{1, 2, 3, 4, 5, 6, 7, 8, 9, 10, 11, 12}) || c.Made() != 12 {
		t.Error(got, c.Made())
	}
}

func TestIDsOfAHoldThatClosesMeanwhile(t *testing.T) {
	for name, closes := range closings() {
		for at := 1; at <= 4; at++ {
			p := lay(t)
			c := p.take(0, 5)
			told := 0
			for range c.IDs() {
				told++
				if told == at {
					closes(p, c)
				}
				if told > at {
					t.Fatalf("%s: told behind its end", name)
				}
			}
			if told != at || c.Made() != at {
				t.Fatalf("%s: told %d, made %d, want %d", name, told, c.Made(), at)
			}
		}
	}
}

// An iterator that was asked for while the hold was open is not open by itself.
func TestIDsAskedForAheadOfTheEnd(t *testing.T) {
	c := lay(t).take(0, 5)
	ids := c.IDs()
	answers(t, c.Release(), api.OK)
	for id := range ids {
		t.Fatal(id)
	}
}

func TestMade(t *testing.T) {
	c := lay(t).take(0, 5)
	for n := range 100 {
		if c.Made() != n {
			t.Fatal(c.Made(), n)
		}
		c.Next()
	}
}

// P7.3

func TestCommit(t *testing.T) {
	p := lay(t)
	c := p.take(0, 5)
	answers(t, c.Commit([]api.Op{{Key: "a", Value: "1"}, {Key: "b", Value: "2"}, {Key: "a", Value: "3"}}), api.OK)
	answers(t, c.Commit([]api.Op{{Key: "b", Gone: true}, {Key: "none", Gone: true}, {Key: "c"}}), api.OK)
	want := `"a"="3" "c"="" `
	if got := p.pairs(); got != want {
		t.Fatal(got)
	}
	wants(t, c, hold{true, 0, 5, 1, 0})
	p.leased(0, 5, 1, 1)
	p.storeDisk.Crash(nil)
	p.open()
	if got := p.pairs(); got != want || p.store.Fence() != 1 {
		t.Fatal("behind a crash:", got, p.store.Fence())
	}
}

func TestCommitOfNothing(t *testing.T) {
	p := lay(t)
	c := p.take(0, 5)
	was := p.stands()
	answers(t, c.Commit(nil), api.OK)
	answers(t, c.Commit([]api.Op{}), api.OK)
	p.still(was)
	wants(t, c, hold{true, 0, 5, 1, 0})
}

// What the store refuses for another reason than its fence closes nothing.
func TestCommitOfWrongOps(t *testing.T) {
	p := lay(t)
	c := p.take(0, 5)
	answers(t, c.Commit(put("a")), api.OK)
	was := p.stands()
	for _, ops := range wrongOps() {
		answers(t, c.Commit(ops), api.ErrForm)
	}
	answers(t, c.Commit(large()), api.ErrLarge)
	p.still(was)
	wants(t, c, hold{true, 0, 5, 1, 0})
	answers(t, c.Commit(put("b")), api.OK)
}

func TestCommitOfAHoldThatWasTakenOver(t *testing.T) {
	for _, ops := range append(wrongOps(), nil, put("x"), large()) {
		p := lay(t)
		a := p.take(0, 5)
		makes(t, a, 1, 2)
		answers(t, a.Commit(put("a")), api.OK)
		b := p.take(0, 6)
		was := p.stands()
		if !a.Open() {
			t.Fatal("it knows of the other one")
		}
		answers(t, a.Commit(ops), api.ErrFence)
		p.still(was)
		p.isClosed(a, hold{false, 0, 5, 1, 2})
		if !b.Renew() || b.Commit(put("b")) != api.OK {
			t.Fatal("the other one does not hold")
		}
	}
}

// The fence counts, and not the lease: a hold whose lease is gone commits till someone raises the fence.
func TestCommitOfAHoldWhoseLeaseIsGone(t *testing.T) {
	p := lay(t)
	c := p.take(0, 5)
	answers(t, p.table.Free(0, p.lease(0)), api.OK)
	answers(t, c.Commit(put("a")), api.OK)
	if _, e := p.table.Swap(0, p.lease(0), 6); e != api.OK {
		t.Fatal(e)
	}
	answers(t, c.Commit(put("b")), api.OK)
	answers(t, p.store.Raise(2), api.OK)
	answers(t, c.Commit(put("c")), api.ErrFence)
	p.isClosed(c, hold{false, 0, 5, 1, 0})
	if p.store.Len() != 2 {
		t.Error(p.pairs())
	}
}

// R2: what is handed in is neither changed nor kept, its spare room included.
func TestCommitLeavesItsOps(t *testing.T) {
	p := lay(t)
	c := p.take(0, 5)
	room := []api.Op{{Key: "a", Value: "1"}, {Key: "b", Value: "2"}, {Key: "spare", Value: "3"}}
	was := slices.Clone(room)
	answers(t, c.Commit(room[:2]), api.OK)
	if !slices.Equal(room, was) {
		t.Fatal(room)
	}
	stood := p.pairs()
	clear(room)
	if p.pairs() != stood {
		t.Fatal("the store hangs on what was handed in")
	}
}

func TestRenew(t *testing.T) {
	p := lay(t)
	c := p.take(0, 5)
	makes(t, c, 1, 3)
	was := p.stands()
	for range 5 {
		if !c.Renew() {
			t.Fatal("a hold that stands is not renewed")
		}
	}
	p.still(was)
	wants(t, c, hold{true, 0, 5, 1, 3})
}

func TestRenewOfAHoldThatWasTakenOver(t *testing.T) {
	for _, owner := range []int{5, 6} {
		p := lay(t)
		a := p.take(0, 5)
		makes(t, a, 1, 3)
		b := p.take(0, owner)
		was := p.stands()
		if a.Renew() {
			t.Fatal("renewed")
		}
		p.still(was)
		p.isClosed(a, hold{false, 0, 5, 1, 3})
		if !b.Renew() {
			t.Fatal("the other one does not hold")
		}
	}
}

func TestRenewOfAHoldThatWasGivenBack(t *testing.T) {
	p := lay(t)
	c := p.take(0, 5)
	answers(t, c.Release(), api.OK)
	p.isClosed(c, hold{false, 0, 5, 1, 0})
	other := p.take(0, 5)
	answers(t, p.table.Free(0, p.lease(0)), api.OK)
	if other.Renew() {
		t.Fatal("nobody owns it, and it is renewed")
	}
	p.isClosed(other, hold{false, 0, 5, 2, 0})
}

// The lease counts, and not the fence.
func TestRenewBehindAGreaterFence(t *testing.T) {
	p := lay(t)
	c := p.take(0, 5)
	answers(t, p.store.Raise(9), api.OK)
	if !c.Renew() {
		t.Fatal("its lease is the table's, and it is not renewed")
	}
	wants(t, c, hold{true, 0, 5, 1, 0})
	answers(t, c.Commit(nil), api.ErrFence)
	p.isClosed(c, hold{false, 0, 5, 1, 0})
}

// A shard's leases are no other shard's.
func TestRenewAsksForItsOwnShard(t *testing.T) {
	p := lay(t)
	c := p.take(0, 5)
	if _, e := p.table.Swap(1, api.Lease{Owner: -1}, 5); e != api.OK { // {5 1}, as that of shard 0
		t.Fatal(e)
	}
	answers(t, p.table.Free(0, p.lease(0)), api.OK)
	if c.Renew() {
		t.Error("renewed by another shard's lease")
	}
}

func TestRelease(t *testing.T) {
	p := lay(t)
	c := p.take(3, 5)
	makes(t, c, 1, 3)
	was := p.stands()
	answers(t, c.Release(), api.OK)
	was.leases[3] = api.Lease{Owner: -1, Range: 1}
	was.tableOps = p.tableDisk.Ops()
	p.still(was)
	p.isClosed(c, hold{false, 3, 5, 1, 3})
	p.tableDisk.Crash(nil)
	p.open()
	p.leased(3, -1, 1, 1)
}

func TestReleaseOfAHoldThatWasTakenOver(t *testing.T) {
	for _, owner := range []int{5, 6} {
		p := lay(t)
		a := p.take(0, 5)
		b := p.take(0, owner)
		was := p.stands()
		answers(t, a.Release(), api.ErrFence)
		p.still(was)
		p.isClosed(a, hold{false, 0, 5, 1, 0})
		if !b.Renew() || b.Commit(put("b")) != api.OK {
			t.Fatal("the other one does not hold")
		}
	}
}

func TestReleaseOfALeaseThatIsFree(t *testing.T) {
	p := lay(t)
	c := p.take(0, 5)
	answers(t, p.table.Free(0, p.lease(0)), api.OK)
	was := p.stands()
	answers(t, c.Release(), api.ErrFence)
	p.still(was)
	p.isClosed(c, hold{false, 0, 5, 1, 0})
}

// P7.4

func TestWhatAHoldTells(t *testing.T) {
	for name, closes := range closings() {
		t.Run(name, func(t *testing.T) {
			p := lay(t)
			for range 4 {
				p.take(7, 1)
			}
			c := p.take(7, lastOwner)
			makes(t, c, 1, 6)
			want := hold{true, 7, lastOwner, 5, 6}
			wants(t, c, want)
			closes(p, c)
			p.isClosed(c, want)
			p.take(7, 2) // it never opens again
			p.take(7, lastOwner)
			p.isClosed(c, want)
		})
	}
}

// R4: holds of two places know nothing of each other.
func TestTwoPlaces(t *testing.T) {
	p, q := lay(t), lay(t)
	a, b := p.take(0, 5), q.take(0, 6)
	makes(t, a, 1, 3)
	p.take(0, 7)
	answers(t, a.Commit(put("a")), api.ErrFence)
	if b.Range() != 1 || !b.Renew() || b.Commit(put("b")) != api.OK {
		t.Fatal("the other place's hold does not stand")
	}
	makes(t, b, 1, 3)
}

// P7.5

// permutations are all orders of the numbers below n.
func permutations(n int) [][]int {
	if n == 0 {
		return [][]int{nil}
	}
	var all [][]int
	for _, rest := range permutations(n - 1) {
		for at := 0; at <= len(rest); at++ {
			all = append(all, slices.Insert(slices.Clone(rest), at, n-1))
		}
	}
	return all
}

// Whatever the order in which holds try to commit, and however often: the last one can, no other does anything.
func TestHoldsThatCommitInAnyOrder(t *testing.T) {
	for _, order := range permutations(5) {
		p := lay(t)
		var holds []*shard.Ctx
		for n := range order {
			holds = append(holds, p.take(0, 50+n%2))
		}
		for range 2 {
			for _, n := range order {
				was, open := p.stands(), holds[n].Open()
				e := holds[n].Commit(put(fmt.Sprint(n)))
				switch {
				case n == len(order)-1:
					answers(t, e, api.OK)
					continue
				case open:
					answers(t, e, api.ErrFence)
				default:
					answers(t, e, api.ErrOwner)
				}
				p.still(was)
				p.isClosed(holds[n], hold{false, 0, 50 + n%2, n + 1, 0})
			}
		}
		if got := p.pairs(); got != `"4"="of 4" ` {
			t.Fatal(order, got)
		}
	}
}

// W2: the ranges of a shard's batches never fall, and behind each new hold every earlier one is fenced.
func TestHoldsTakenBetweenCommits(t *testing.T) {
	for _, order := range permutations(4) {
		p := lay(t)
		var holds []*shard.Ctx
		last := 0
		for range 3 {
			holds = append(holds, p.take(0, 9))
			for _, n := range order {
				if n >= len(holds) {
					continue
				}
				c := holds[n]
				if e := c.Commit(put(fmt.Sprint(c.Range()))); (e == api.OK) != (n == len(holds)-1) {
					t.Fatalf("the hold of the range %d of %d answers %d", c.Range(), len(holds), e)
				} else if e == api.OK && c.Range() < last {
					t.Fatalf("a batch of %d behind one of %d", c.Range(), last)
				} else if e == api.OK {
					last = c.Range()
				}
			}
		}
	}
}

// rise ends the test if an ID is not greater than the one ahead.
func rise(t *testing.T, row []api.ID) {
	t.Helper()
	for at := 1; at < len(row); at++ {
		if !codec.Less(row[at-1], row[at]) {
			t.Fatalf("%v stands ahead of %v", row[at-1], row[at])
		}
	}
}

// No two holds make one ID, and those of a later one are greater, whenever they are made.
func TestIDsOfManyHolds(t *testing.T) {
	p := lay(t)
	var holds []*shard.Ctx
	var made [][]api.ID
	for n := range 12 {
		c := p.take(0, n%3)
		if n%4 == 3 {
			answers(t, c.Release(), api.OK)
		}
		holds, made = append(holds, c), append(made, nil)
		for at, c := range holds { // those of earlier ones go on being made
			for range 1 + (n+at)%3 {
				if id, e := c.Next(); e == api.OK {
					made[at] = append(made[at], id)
				}
			}
		}
	}
	row := slices.Concat(made...)
	rise(t, row)
	if len(row) < 100 {
		t.Fatal("too few:", len(row))
	}
}
