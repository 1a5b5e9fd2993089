package lease_test

import (
	"fmt"
	"math"
	"slices"
	"testing"

	"tiller/api"
	"tiller/codec"
	"tiller/kv"
	"tiller/lease"
	"tiller/world"
)

// leases are those of all shards.
type leases [api.MaxShards]api.Lease

// fresh are those of a table to which nothing happened.
func fresh() leases {
	var all leases
	for shard := range all {
		all[shard] = l(-1, 0)
	}
	return all
}

func l(owner, number int) api.Lease {
	return api.Lease{Owner: owner, Range: number}
}

// with are the leases with another one in the stead of a shard's.
func (all leases) with(shard int, other api.Lease) leases {
	all[shard] = other
	return all
}

// strangers are leases that differ from one in the owner alone, in the range alone, or in both.
func strangers(of api.Lease) []api.Lease {
	var out []api.Lease
	for _, owner := range []int{of.Owner - 1, of.Owner + 1, -1, 0, math.MinInt, math.MaxInt, of.Owner} {
		for _, number := range []int{of.Range - 1, of.Range + 1, 0, math.MinInt, math.MaxInt, of.Range} {
			if l(owner, number) != of {
				out = append(out, l(owner, number))
			}
		}
	}
	return out
}

// noShards are numbers of shards that there are not.
func noShards() []int {
	return []int{math.MinInt, -api.MaxShards, -1, api.MaxShards, api.MaxShards + 1, 1 << 32, math.MaxInt}
}

// open opens a table; that is no operation of the disk.
func open(t *testing.T, d *world.Disk) *lease.Table {
	t.Helper()
	done := d.Ops()
	x, e := lease.Open(d)
	if x == nil || e != api.OK || x.Swaps() != 0 || d.Ops() != done {
		t.Fatalf("Open is %v, %d, with %d operations", x, e, d.Ops()-done)
	}
	return x
}

// told are the leases that a table tells; the ways in which it tells them must agree.
func told(t *testing.T, x *lease.Table) leases {
	t.Helper()
	var all leases
	owned := map[int][]int{}
	next := 0
	for shard, got := range x.All() {
		if shard != next {
			t.Fatalf("All tells %d, where %d stands", shard, next)
		}
		next++
		if one, e := x.Get(shard); one != got || e != api.OK {
			t.Fatalf("Get(%d) is %v, %d; All tells %v", shard, one, e, got)
		}
		if !x.Holds(shard, got) {
			t.Fatalf("Holds(%d, %v) is false", shard, got)
		}
		for _, other := range []api.Lease{l(got.Owner+1, got.Range), l(got.Owner, got.Range+1), l(got.Owner, got.Range-1)} {
			if x.Holds(shard, other) {
				t.Fatalf("Holds(%d, %v) is true", shard, other)
			}
		}
		all[shard] = got
		owned[got.Owner] = append(owned[got.Owner], shard)
	}
	if next != api.MaxShards {
		t.Fatalf("All tells %d shards", next)
	}
	for owner, shards := range owned {
		if got := x.Owned(owner); !slices.Equal(got, shards) {
			t.Fatalf("Owned(%d) is %v, want %v", owner, got, shards)
		}
	}
	return all
}

// want ends the test if a table tells something else.
func want(t *testing.T, x *lease.Table, all leases) {
	t.Helper()
	if got := told(t, x); got != all {
		t.Fatalf("told %v, want %v", got, all)
	}
}

// stored ends the test if the disk has something else than the table, with a crash or without.
func stored(t *testing.T, d *world.Disk, x *lease.Table) {
	t.Helper()
	was := told(t, x)
	want(t, open(t, d), was)
	d.Crash(nil)
	want(t, open(t, d), was)
}

func answers(t *testing.T, got, want api.Errno) {
	t.Helper()
	if got != want {
		t.Fatalf("answered %d, want %d", got, want)
	}
}

// swap gives a shard to an owner, which must be OK.
func swap(t *testing.T, x *lease.Table, shard, owner int) api.Lease {
	t.Helper()
	was, _ := x.Get(shard)
	given, e := x.Swap(shard, was, owner)
	if given != l(owner, was.Range+1) || e != api.OK {
		t.Fatalf("Swap(%d, %v, %d) is %v, %d", shard, was, owner, given, e)
	}
	return given
}

// doesNothing ends the test if a call answers something else, or changes anything that can be told, or touches the disk.
func doesNothing(t *testing.T, d *world.Disk, x *lease.Table, call func() api.Errno, answer api.Errno) {
	t.Helper()
	was, done, swaps := told(t, x), d.Ops(), x.Swaps()
	answers(t, call(), answer)
	want(t, x, was)
	if d.Ops() != done || x.Swaps() != swaps {
		t.Fatalf("%d operations, %d swaps", d.Ops()-done, x.Swaps()-swaps)
	}
}

// refusesSwap ends the test if a Swap is not refused so, with a zero lease, and nothing done.
func refusesSwap(t *testing.T, d *world.Disk, x *lease.Table, shard int, was api.Lease, owner int, refusal api.Errno) {
	t.Helper()
	doesNothing(t, d, x, func() api.Errno {
		given, e := x.Swap(shard, was, owner)
		if given != (api.Lease{}) {
			t.Fatalf("Swap(%d, %v, %d) gives %v", shard, was, owner, given)
		}
		return e
	}, refusal)
}

func refusesFree(t *testing.T, d *world.Disk, x *lease.Table, shard int, was api.Lease, refusal api.Errno) {
	t.Helper()
	doesNothing(t, d, x, func() api.Errno { return x.Free(shard, was) }, refusal)
}

// reaches lets a shard of a disk have a range that no test has the time for, by what the store has instead of a lease that was given.
func reaches(t *testing.T, d *world.Disk, shard int, number int) {
	t.Helper()
	given := swap(t, open(t, d), shard, 77)
	raw, _ := codec.Lease(given)
	other, e := codec.Lease(l(given.Owner, number))
	answers(t, e, api.OK)
	s, _ := kv.Open(d, 0)
	for key, value := range s.Scan("", "") {
		if value == string(raw) {
			answers(t, s.Commit(s.Fence(), []api.Op{{Key: key, Value: string(other)}}), api.OK)
		}
	}
	want(t, open(t, d), fresh().with(shard, l(77, number)))
}

// P5.1

func TestOpenOfNil(t *testing.T) {
	if x, e := lease.Open(nil); x != nil || e != api.ErrArg {
		t.Errorf("Open(nil) is %v, %d", x, e)
	}
}

func TestOpenOfAnEmptyDisk(t *testing.T) {
	d := world.NewDisk()
	x := open(t, d)
	want(t, x, fresh())
	if len(d.Files()) != 0 {
		t.Error(d.Files())
	}
	stored(t, d, x)
}

func TestOpenRefusesNothingElse(t *testing.T) {
	d := world.NewDisk()
	swap(t, open(t, d), 4, 2)
	d.Fail(0, 2)
	want(t, open(t, d), fresh().with(4, l(2, 1)))
	d.Stop(0)
	want(t, open(t, d), fresh().with(4, l(2, 1)))
}

func TestOpenTellsWhatTheDiskHas(t *testing.T) {
	d := world.NewDisk()
	x, all := open(t, d), fresh()
	for i := range 600 {
		shard := i * i % 31 % api.MaxShards
		if i%5 == 4 {
			answers(t, x.Free(shard, all[shard]), api.OK)
			all[shard].Owner = -1
		} else {
			all[shard] = swap(t, x, shard, i%7)
		}
		want(t, x, all)
		if i%50 == 0 {
			stored(t, d, x)
			x = open(t, d)
		}
	}
	stored(t, d, x)
}

// R4
func TestTablesOfTwoDisksKnowNothingOfEachOther(t *testing.T) {
	d, other := world.NewDisk(), world.NewDisk()
	x, y := open(t, d), open(t, other)
	swap(t, x, 0, 5)
	swap(t, x, 0, 6)
	want(t, y, fresh())
	swap(t, y, 0, 7)
	want(t, x, fresh().with(0, l(6, 2)))
	want(t, y, fresh().with(0, l(7, 1)))
	d.Crash(nil)
	want(t, y, fresh().with(0, l(7, 1)))
	if x.Swaps() != 2 || y.Swaps() != 1 {
		t.Fatal(x.Swaps(), y.Swaps())
	}
}

// The table is the log 0 of its disk, and leaves all other logs and files alone.
func TestTableIsTheLog0(t *testing.T) {
	d := world.NewDisk()
	for n := 1; n < 16; n++ {
		s, _ := kv.Open(d, n)
		answers(t, s.Commit(0, []api.Op{{Key: "0", Value: "mine"}}), api.OK)
	}
	var others [][]byte
	for _, file := range d.Files() {
		others = append(others, d.Read(file))
	}
	files := d.Files()
	x := open(t, d)
	for i := range 300 {
		swap(t, x, i%api.MaxShards, i)
	}
	for i, file := range files {
		if !slices.Equal(d.Read(file), others[i]) {
			t.Fatalf("file %d is another", file)
		}
	}
	for _, file := range d.Files() {
		if file >= 1<<20 && !slices.Contains(files, file) {
			t.Fatalf("file %d is new", file)
		}
	}
	stored(t, d, x)
	for _, file := range d.Files() {
		if file < 1<<20 {
			d.Delete(file)
		}
	}
	want(t, open(t, d), fresh())
}

// R1: whatever the store has, the table opens, and its calls end.
func TestOpenOfStrangeValues(t *testing.T) {
	d := world.NewDisk()
	x := open(t, d)
	for shard := range api.MaxShards {
		swap(t, x, shard, shard)
	}
	s, _ := kv.Open(d, 0)
	strange := []string{"", "\x00", "\x01\x01", "\x00\x00\x00", "\xff", "strange", "\x01\x05\x07\x10\x00\x00\x00\x00\x00\x01"}
	var batch []api.Op
	for i, pair := range s.List("", math.MaxInt) {
		batch = append(batch, api.Op{Key: pair.Key, Value: strange[i%len(strange)]})
	}
	answers(t, s.Commit(s.Fence(), batch), api.OK)
	answers(t, s.Raise(9), api.OK)
	x = open(t, d)
	for shard := range api.MaxShards {
		was, e := x.Get(shard)
		answers(t, e, api.OK)
		swap(t, x, shard, 3)
		refusesSwap(t, d, x, shard, was, 4, api.ErrFence)
	}
	stored(t, d, x)
}

// P5.2

func TestRuns(t *testing.T) {
	d := world.NewDisk()
	x := open(t, d)
	for _, run := range []struct {
		shard     int
		was       api.Lease
		owner     int
		want      api.Lease
		wantErrno api.Errno
	}{
		{0, l(-1, 0), 5, l(5, 1), api.OK},
		{0, l(-1, 0), 6, api.Lease{}, api.ErrFence},
		{0, l(5, 1), 6, l(6, 2), api.OK},
	} {
		if got, e := x.Swap(run.shard, run.was, run.owner); got != run.want || e != run.wantErrno {
			t.Fatal(run, got, e)
		}
	}
	answers(t, x.Free(0, l(5, 1)), api.ErrFence)
	answers(t, x.Free(0, l(6, 2)), api.OK)
	want(t, x, fresh().with(0, l(-1, 2)))
	refusesSwap(t, d, x, 16, l(-1, 2), 1, api.ErrArg)
	refusesSwap(t, d, x, 0, l(-1, 2), -1, api.ErrArg)
	if got := x.Owned(6); len(got) != 0 {
		t.Fatal(got)
	}
	stored(t, d, x)
}

func TestGetOfAShardThatThereIsNot(t *testing.T) {
	x := open(t, world.NewDisk())
	for _, shard := range noShards() {
		if got, e := x.Get(shard); got != (api.Lease{}) || e != api.ErrArg {
			t.Errorf("Get(%d) is %v, %d", shard, got, e)
		}
	}
}

// Each shard has a lease of its own.
func TestSwapOfEachShard(t *testing.T) {
	for shard := range api.MaxShards {
		d := world.NewDisk()
		x := open(t, d)
		for number, owner := range []int{0, 1, 1, api.MaxNumber / 2, 0, api.MaxNumber/2 - 1, 255, 256} {
			given := swap(t, x, shard, owner)
			if given != l(owner, number+1) || x.Swaps() != number+1 {
				t.Fatal(given, x.Swaps())
			}
			want(t, x, fresh().with(shard, given))
			want(t, open(t, d), fresh().with(shard, given))
		}
		stored(t, d, x)
	}
}

func TestSwapRefuses(t *testing.T) {
	d := world.NewDisk()
	x := open(t, d)
	for _, shard := range []int{0, 7, api.MaxShards - 1} {
		for range 2 {
			was := swap(t, x, shard, 5)
			for _, owner := range []int{math.MinInt, -2, -1, api.MaxNumber/2 + 1, api.MaxNumber, math.MaxInt} {
				refusesSwap(t, d, x, shard, was, owner, api.ErrArg)
			}
			for _, other := range strangers(was) {
				refusesSwap(t, d, x, shard, other, 6, api.ErrFence)
			}
		}
		for _, none := range noShards() {
			for _, was := range []api.Lease{{}, l(-1, 0), l(5, 2)} {
				refusesSwap(t, d, x, none, was, 5, api.ErrArg)
			}
		}
	}
	stored(t, d, x)
}

// A lease of another shard is none of this one.
func TestLeasesOfOtherShards(t *testing.T) {
	d := world.NewDisk()
	x := open(t, d)
	first := swap(t, x, 1, 5)
	second := swap(t, x, 2, 6)
	third := swap(t, x, 3, 6) // as the second one's
	refusesSwap(t, d, x, 1, second, 7, api.ErrFence)
	refusesFree(t, d, x, 1, second, api.ErrFence)
	refusesSwap(t, d, x, 2, first, 7, api.ErrFence)
	refusesFree(t, d, x, 2, first, api.ErrFence)
	answers(t, x.Free(3, second), api.OK)
	want(t, x, fresh().with(1, first).with(2, second).with(3, l(-1, third.Range)))
	stored(t, d, x)
}

// Example 3.
func TestTwoSwapsFromOneLease(t *testing.T) {
	d := world.NewDisk()
	x := open(t, d)
	swap(t, x, 3, 1)
	refusesSwap(t, d, x, 3, l(-1, 0), 1, api.ErrFence)
	swap(t, x, 3, 1)
	refusesSwap(t, d, x, 3, l(1, 1), 1, api.ErrFence)
	want(t, x, fresh().with(3, l(1, 2)))
}

func TestFree(t *testing.T) {
	d := world.NewDisk()
	x := open(t, d)
	for _, shard := range []int{0, 9, api.MaxShards - 1} {
		for number := 1; number < 4; number++ {
			was := swap(t, x, shard, 8)
			all := told(t, x)
			for _, other := range strangers(was) {
				refusesFree(t, d, x, shard, other, api.ErrFence)
			}
			answers(t, x.Free(shard, was), api.OK)
			want(t, x, all.with(shard, l(-1, number)))
			want(t, open(t, d), all.with(shard, l(-1, number)))
			refusesFree(t, d, x, shard, was, api.ErrFence)
			for _, other := range strangers(l(-1, number)) {
				refusesSwap(t, d, x, shard, other, 8, api.ErrFence)
			}
		}
	}
	for _, none := range noShards() {
		for _, was := range []api.Lease{{}, l(-1, 0), l(8, 3), l(-1, 3)} {
			refusesFree(t, d, x, none, was, api.ErrArg)
		}
	}
	stored(t, d, x)
}

func TestFreeOfAFreeOneDoesNothing(t *testing.T) {
	d := world.NewDisk()
	x := open(t, d)
	for _, stopped := range []bool{false, true} {
		for shard := range api.MaxShards {
			was, _ := x.Get(shard)
			refusesFree(t, d, x, shard, was, api.OK)
			for _, other := range strangers(was) {
				refusesFree(t, d, x, shard, other, api.ErrFence)
			}
		}
		if !stopped {
			answers(t, x.Free(6, swap(t, x, 6, 0)), api.OK)
			want(t, x, fresh().with(6, l(-1, 1)))
			d.Stop(0)
		}
	}
	d.Crash(nil)
	d.Fail(0, 0)
	x = open(t, d)
	refusesFree(t, d, x, 6, l(-1, 1), api.OK)
	answers(t, swapErrno(x, 6, l(-1, 1), 3), api.ErrIO) // the fault waits still
}

func swapErrno(x *lease.Table, shard int, was api.Lease, owner int) api.Errno {
	_, e := x.Swap(shard, was, owner)
	return e
}

func TestGreatestRange(t *testing.T) {
	for _, freed := range []bool{false, true} {
		d := world.NewDisk()
		reaches(t, d, 2, api.MaxNumber-1)
		x := open(t, d)
		was := swap(t, x, 2, api.MaxNumber/2)
		stored(t, d, x)
		if was != l(api.MaxNumber/2, api.MaxNumber) {
			t.Fatal(was)
		}
		x = open(t, d)
		if freed {
			answers(t, x.Free(2, was), api.OK)
			was = l(-1, api.MaxNumber)
			refusesFree(t, d, x, 2, was, api.OK)
			stored(t, d, x)
			x = open(t, d)
		}
		for _, owner := range []int{0, 5, api.MaxNumber / 2} {
			refusesSwap(t, d, x, 2, was, owner, api.ErrFull)
		}
		refusesSwap(t, d, x, 2, was, -1, api.ErrArg)
		refusesSwap(t, d, x, 2, was, api.MaxNumber/2+1, api.ErrArg)
		refusesSwap(t, d, x, 2, l(was.Owner, was.Range-1), 5, api.ErrFence)
		refusesSwap(t, d, x, 2, l(was.Owner+1, was.Range), 5, api.ErrFence)
		swap(t, x, 3, 5) // another shard's range is its own
		d.Stop(0)
		refusesSwap(t, d, x, 2, was, 5, api.ErrFull)
		want(t, x, fresh().with(2, was).with(3, l(5, 1)))
	}
}

// R3: where several refusals apply.
func TestOrderOfRefusals(t *testing.T) {
	d := world.NewDisk()
	x := open(t, d)
	was := swap(t, x, 0, 5)
	for _, stopped := range []bool{false, true} {
		if stopped {
			d.Stop(0)
		}
		refusesSwap(t, d, x, -1, l(9, 9), -1, api.ErrArg)
		refusesSwap(t, d, x, api.MaxShards, l(9, 9), 5, api.ErrArg)
		refusesSwap(t, d, x, 0, l(9, 9), -1, api.ErrArg)
		refusesSwap(t, d, x, 0, l(9, 9), api.MaxNumber/2+1, api.ErrArg)
		refusesSwap(t, d, x, 0, l(9, 9), 5, api.ErrFence)
		refusesSwap(t, d, x, 0, l(5, api.MaxNumber), 5, api.ErrFence)
		refusesFree(t, d, x, -1, l(9, 9), api.ErrArg)
		refusesFree(t, d, x, api.MaxShards, was, api.ErrArg)
		refusesFree(t, d, x, 0, l(9, 9), api.ErrFence)
		refusesFree(t, d, x, 0, l(-1, 1), api.ErrFence)
	}
	answers(t, swapErrno(x, 0, was, 6), api.ErrDead)
	answers(t, x.Free(0, was), api.ErrDead)
	want(t, x, fresh().with(0, was))
}

// P5.3

func TestHolds(t *testing.T) {
	d := world.NewDisk()
	x := open(t, d)
	swap(t, x, 1, 0) // as near to the zero lease as one that was given can be
	swap(t, x, 2, 5)
	for shard, held := range told(t, x) {
		if !x.Holds(shard, held) {
			t.Errorf("Holds(%d, %v) is false", shard, held)
		}
		for _, other := range strangers(held) {
			if x.Holds(shard, other) {
				t.Errorf("Holds(%d, %v) is true", shard, other)
			}
		}
	}
	for _, shard := range noShards() {
		for _, other := range []api.Lease{{}, l(-1, 0), l(0, 1), l(5, 1)} {
			if x.Holds(shard, other) {
				t.Errorf("Holds(%d, %v) is true", shard, other)
			}
		}
	}
}

func TestOwned(t *testing.T) {
	d := world.NewDisk()
	x := open(t, d)
	owns := func(owner int, want ...int) {
		t.Helper()
		if got := x.Owned(owner); !slices.Equal(got, want) {
			t.Fatalf("Owned(%d) is %v, want %v", owner, got, want)
		}
	}
	all := make([]int, api.MaxShards)
	for shard := range all {
		all[shard] = shard
	}
	owns(0)
	owns(-1, all...)
	for _, shard := range []int{7, 0, 15, 3} {
		swap(t, x, shard, 0)
	}
	swap(t, x, 10, 9)
	owns(0, 0, 3, 7, 15)
	owns(9, 10)
	owns(-1, 1, 2, 4, 5, 6, 8, 9, 11, 12, 13, 14)
	for _, owner := range []int{math.MinInt, -2, 1, 10, api.MaxNumber / 2, math.MaxInt} {
		owns(owner)
	}
	answers(t, x.Free(3, l(0, 1)), api.OK)
	owns(0, 0, 7, 15)
	for shard := range all {
		swap(t, x, shard, 4)
	}
	owns(4, all...)
	owns(0)
	owns(9)
	owns(-1)
	x = open(t, d)
	owns(4, all...)
}

func TestAllIsStoppedAnywhere(t *testing.T) {
	x := open(t, world.NewDisk())
	swap(t, x, 0, 3)
	swap(t, x, 15, 4)
	all := x.All()
	for stop := range api.MaxShards + 1 {
		for range 2 {
			next := 0
			for shard, got := range all {
				if held, _ := x.Get(shard); shard != next || got != held {
					t.Fatal(stop, shard, got)
				}
				next++
				if shard == stop {
					break
				}
			}
			if next != min(stop+1, api.MaxShards) {
				t.Fatal(stop, next)
			}
		}
	}
}

// It tells the leases as they stand when it is ranged over: not as when it was made, nor as they become meanwhile.
func TestAllOfATableThatChanges(t *testing.T) {
	x := open(t, world.NewDisk())
	all := x.All()
	for shard := range api.MaxShards {
		swap(t, x, shard, shard)
	}
	for round := 1; round < 4; round++ {
		next := 0
		for shard, got := range all {
			if shard != next || got != l(shard, round) {
				t.Fatal(round, shard, got)
			}
			next++
			back := api.MaxShards - 1 - shard // half of them ahead of being told, half behind it
			swap(t, x, back, back)
		}
		if next != api.MaxShards {
			t.Fatal(next)
		}
	}
	for shard := range all {
		answers(t, x.Free(shard, l(shard, 4)), api.OK)
	}
	for shard, got := range all {
		if got != l(-1, 4) {
			t.Fatal(shard, got)
		}
	}
}

func TestSwaps(t *testing.T) {
	d := world.NewDisk()
	x := open(t, d)
	counts := func(want int) {
		t.Helper()
		if x.Swaps() != want {
			t.Fatal(x.Swaps(), want)
		}
	}
	counts(0)
	was := swap(t, x, 0, 5)
	counts(1)
	swap(t, x, 1, 5)
	was = swap(t, x, 0, 5)
	counts(3)
	answers(t, x.Free(0, was), api.OK)
	answers(t, x.Free(0, l(-1, 2)), api.OK)
	answers(t, swapErrno(x, 0, was, 6), api.ErrFence)
	answers(t, swapErrno(x, 0, l(-1, 2), -1), api.ErrArg)
	d.Fail(0, 0)
	answers(t, swapErrno(x, 0, l(-1, 2), 6), api.ErrIO)
	counts(3)
	for range 400 { // enough of them for the store to make itself short on the way
		swap(t, x, 2, 7)
	}
	counts(403)
	if open(t, d).Swaps() != 0 {
		t.Fatal("a table that was opened just now")
	}
	counts(403)
	d.Crash(nil)
	x = open(t, d)
	counts(0)
	swap(t, x, 2, 7)
	counts(1)
}

// R2

func TestWhatIsAnsweredIsNewMemory(t *testing.T) {
	d := world.NewDisk()
	x := open(t, d)
	for _, shard := range []int{2, 4, 11} {
		swap(t, x, shard, 9)
	}
	was := told(t, x)
	for _, owner := range []int{9, -1, 3} {
		list, other := x.Owned(owner), x.Owned(owner)
		kept := fmt.Sprint(other)
		for i := range list[:cap(list)] {
			list[:cap(list)][i] = -7
		}
		if fmt.Sprint(other) != kept || fmt.Sprint(x.Owned(owner)) != kept {
			t.Fatal(other, x.Owned(owner), kept)
		}
	}
	got, _ := x.Get(2)
	got.Owner, got.Range = 3, 3
	for _, got := range x.All() {
		got.Owner, got.Range = 3, 3
	}
	want(t, x, was)
	stored(t, d, x)
}
