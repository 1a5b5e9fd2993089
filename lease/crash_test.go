package lease_test

import (
	"fmt"
	"iter"
	"math/rand"
	"slices"
	"strings"
	"testing"

	"tiller/api"
	"tiller/lease"
	"tiller/world"
)

// call is a Swap of a shard to an owner, or (owner -1) a Free of it, each from the lease that the shard has.
type call struct{ shard, owner int }

func frees(shard int) call {
	return call{shard, -1}
}

func (c call) String() string {
	if c.owner < 0 {
		return fmt.Sprintf("Free(%d)", c.shard)
	}
	return fmt.Sprintf("Swap(%d to %d)", c.shard, c.owner)
}

// of are the leases as they would be, had the call been OK.
func (c call) of(all leases) leases {
	was := all[c.shard]
	if c.owner < 0 {
		return all.with(c.shard, l(-1, was.Range))
	}
	return all.with(c.shard, l(c.owner, was.Range+1))
}

// witness follows a table through its calls, openings and crashes, and holds it to the promises.
type witness struct {
	t       *testing.T
	d       *world.Disk
	x       *lease.Table
	now     leases
	allowed []leases             // what a crash may leave beside now
	given   [api.MaxShards][]int // the ranges of all Swaps that were OK
	swaps   int                  // of them since Open
	story   []string
}

func watch(t *testing.T) *witness {
	t.Helper()
	w := &witness{t: t, d: world.NewDisk(), now: fresh()}
	w.x = open(t, w.d)
	return w
}

func (w *witness) fatal(what string, got any) {
	w.t.Helper()
	w.t.Fatalf("%s: %v\nbehind %s\nwant %v, or behind a crash one of %v", what, got, strings.Join(w.story, "; "), w.now, w.allowed)
}

// do does a call: it is OK and done, or the disk refuses it and nothing has changed (P5.2); if it is OK, Open tells that at once. It tells whether it was OK.
func (w *witness) do(c call) bool {
	w.t.Helper()
	var given, due api.Lease
	var e api.Errno
	if c.owner < 0 {
		e = w.x.Free(c.shard, w.now[c.shard])
	} else {
		given, e = w.x.Swap(c.shard, w.now[c.shard], c.owner)
	}
	w.story = append(w.story, fmt.Sprint(c, " ", e))
	switch e {
	case api.OK:
		w.now, w.allowed = c.of(w.now), nil
		if c.owner >= 0 {
			due = w.now[c.shard]
			w.gives(c.shard, given.Range)
		}
	case api.ErrIO, api.ErrDead:
		w.allowed = append(w.allowed, c.of(w.now))
	default:
		w.fatal("a call", e)
	}
	if given != due {
		w.fatal("given", given)
	}
	if got := told(w.t, w.x); got != w.now || w.x.Swaps() != w.swaps {
		w.fatal("the table tells", fmt.Sprint(got, " ", w.x.Swaps()-w.swaps, " swaps too many"))
	}
	if e == api.OK && told(w.t, open(w.t, w.d)) != w.now {
		w.fatal("opened without a crash", told(w.t, open(w.t, w.d)))
	}
	return e == api.OK
}

// gives: by P5.4 a range is greater than all that were given ahead of it.
func (w *witness) gives(shard, number int) {
	w.t.Helper()
	if len(w.given[shard]) > 0 && number <= slices.Max(w.given[shard]) {
		w.fatal("given anew", number)
	}
	w.given[shard] = append(w.given[shard], number)
	w.swaps++
}

// crash crashes the disk; by P5.4 what Open tells is allowed, and from then on it stands, behind further crashes too.
func (w *witness) crash(cuts []int) {
	w.t.Helper()
	w.d.Crash(cuts)
	w.story = append(w.story, fmt.Sprint("crash ", cuts))
	w.x, w.swaps = open(w.t, w.d), 0
	got := told(w.t, w.x)
	if got != w.now && !slices.Contains(w.allowed, got) {
		w.fatal("behind a crash", got)
	}
	w.now, w.allowed = got, nil
	w.d.Crash(cuts)
	if got := told(w.t, open(w.t, w.d)); got != w.now {
		w.fatal("behind a second crash", got)
	}
}

// must does calls of which none may be refused.
func (w *witness) must(calls ...call) {
	w.t.Helper()
	for _, c := range calls {
		if !w.do(c) {
			w.fatal("refused without a fault", c)
		}
	}
}

// goesOn: once no fault strikes, calls are OK, and what they leave stands.
func (w *witness) goesOn() {
	w.t.Helper()
	for _, c := range []call{{2, 70}, {2, 71}, frees(2), frees(2), {0, 0}, {2, 72}, {15, 70}} {
		w.must(c)
		w.crash([]int{5, 5, 5})
	}
}

// trouble is a fault of a kind, or (kind -1) a stop, behind some operations.
type trouble struct{ after, kind int }

func (w *witness) meet(m trouble) {
	w.story = append(w.story, fmt.Sprintf("trouble %d of kind %d", m.after, m.kind))
	if m.kind < 0 {
		w.d.Stop(m.after)
		return
	}
	w.d.Fail(m.after, m.kind)
}

// calm ends all trouble without a crash: the faults that wait strike what is nobody's, and the disk is stopped later than ever.
func (w *witness) calm() {
	for range 100 {
		w.d.Sync(1 << 30)
	}
	w.d.Stop(1 << 40)
}

// troubles are those of all kinds behind so many operations.
func troubles(after int) []trouble {
	return []trouble{{after, -1}, {after, 0}, {after, 1}, {after, 2}, {after, 3}}
}

// crashes tells all that a crash can do to a disk, each file's 2u + 1 cuts with those of every other (P1.4); of very many ways some.
func crashes(d *world.Disk) iter.Seq[[]int] {
	return func(yield func([]int) bool) {
		var each []int
		ways := 1
		for _, file := range d.Files() {
			cuts := 2*(len(d.Read(file))-d.Kept(file)) + 1
			each = append(each, cuts)
			ways *= cuts
		}
		for way := 0; way < ways; way += 1 + ways/150 {
			var cuts []int
			left := way
			for _, n := range each {
				cuts = append(cuts, left%n)
				left /= n
			}
			if !yield(cuts) {
				return
			}
		}
	}
}

// throughCrashes tells a story, ends it by each crash that can end it, and lets the table go on.
func throughCrashes(t *testing.T, story func(w *witness)) {
	t.Helper()
	first := watch(t)
	story(first)
	way := 0
	for cuts := range crashes(first.d) {
		w := watch(t)
		story(w)
		w.crash(cuts)
		if way%9 == 0 {
			w.goesOn()
		}
		way++
	}
}

// beginnings are calls by which a table gets to where trouble finds it.
func beginnings() [][]call {
	return [][]call{
		nil,
		{{2, 4}},
		{{2, 4}, {3, 4}, {2, 5}},
		{{2, 4}, frees(2)},
		{{15, 1}, {2, 6}, frees(15), {2, 6}, {0, 0}},
	}
}

// mostOps is more than how many operations a call of a beginning has.
const mostOps = 24

// P5.2, P5.4: one call meets trouble at each of its operations.
func TestOneRefusedCall(t *testing.T) {
	refused := map[call]int{}
	for _, beginning := range beginnings() {
		for _, c := range []call{{2, 9}, {8, 0}, frees(2)} {
			for after := range mostOps {
				met := false
				for _, m := range troubles(after) {
					throughCrashes(t, func(w *witness) {
						w.must(beginning...)
						w.meet(m)
						ahead := w.d.Ops()
						ok := w.do(c)
						met = w.d.Ops()-ahead > after
						if !ok && !met {
							w.fatal("refused, though the disk did not refuse", c)
						}
						if !ok { // one may also be OK where the trouble comes behind it
							refused[c]++
						}
					})
				}
				if !met {
					break // no later operation is there to be met
				}
			}
		}
	}
	if len(refused) != 3 {
		t.Fatal("not all calls were ever refused", refused)
	}
}

// P5.2: the refusal is the disk's.
func TestRefusalIsTheDisks(t *testing.T) {
	for _, c := range []call{{2, 9}, frees(2)} {
		for _, m := range append(troubles(0), troubles(1)...) {
			refusal := api.ErrIO
			if m.kind < 0 {
				refusal = api.ErrDead
			}
			w := watch(t)
			w.must(call{2, 4})
			w.meet(m)
			if w.do(c); !strings.HasSuffix(w.story[len(w.story)-1], fmt.Sprint(" ", refusal)) {
				w.fatal("another refusal", refusal)
			}
		}
	}
}

// P5.4: behind several refused calls a crash leaves none of them, or one.
func TestRefusedCallsInARow(t *testing.T) {
	calls := []call{{2, 9}, frees(2), {3, 9}, {2, 8}, frees(15)}
	for i, beginning := range beginnings() {
		for after := range 8 {
			for k, m := range troubles(after) {
				throughCrashes(t, func(w *witness) {
					w.must(beginning...)
					for n := range 2 + (after+k)%3 {
						w.meet(trouble{(after + 3*n) % 8, m.kind})
						w.do(calls[(i+k+n)%len(calls)])
					}
				})
			}
		}
	}
}

// P5.4: several refused calls in a row, and then one that is OK: what was refused ahead of it is never told.
func TestRefusedAheadOfAnOK(t *testing.T) {
	for i, beginning := range beginnings() {
		for after := range 8 {
			for _, m := range troubles(after) {
				if m.kind == 1 || m.kind == 3 { // strike as kind 0 does
					continue
				}
				for _, last := range []call{{2, 11}, {3, 11}, frees(2), frees(9)} {
					throughCrashes(t, func(w *witness) {
						w.must(beginning...)
						for n := range 3 {
							w.meet(m)
							w.do([]call{{2, 20 + n}, {3, 20}, frees(2)}[(i+n)%3])
						}
						w.calm()
						w.must(last)
						if len(w.allowed) != 0 {
							w.fatal("behind an OK", w.allowed)
						}
					})
				}
			}
		}
	}
}

// P5.2, P5.4: a Free of a free shard is OK on a stopped disk too, and what was refused ahead of it is not told.
func TestRefusedAheadOfAFreeOfAFreeOne(t *testing.T) {
	for after := range 8 {
		for _, m := range troubles(after) {
			throughCrashes(t, func(w *witness) {
				w.must(call{2, 4}, call{3, 4}, frees(3))
				w.meet(m)
				w.do(call{2, 5})
				w.must(frees(3), frees(12))
			})
		}
	}
}

// P5.4: a refused Swap gives nothing: the range may be given to whoever comes next, and to him alone.
func TestRangeOfARefusedSwap(t *testing.T) {
	for after := range 8 {
		w := watch(t)
		w.must(call{2, 4})
		w.meet(trouble{after, 2})
		if w.do(call{2, 5}) {
			return
		}
		w.must(call{2, 6})
		if got, _ := w.x.Get(2); got != l(6, 2) {
			w.fatal("given", got)
		}
		refusesSwap(t, w.d, w.x, 2, l(5, 2), 7, api.ErrFence)
		refusesFree(t, w.d, w.x, 2, l(5, 2), api.ErrFence)
		w.crash(nil)
		if got, _ := w.x.Get(2); got != l(6, 2) {
			w.fatal("behind a crash", got)
		}
	}
	t.Fatal("refused at each of the first operations")
}

// However often calls are refused: once faults are over, no call is.
func TestCallsAreOKWhenFaultsAreOver(t *testing.T) {
	w := watch(t)
	for k := range 200 {
		for after := range k % 40 {
			w.d.Fail(after, k%3)
		}
		if k%4 == 0 {
			w.d.Stop(k % 17)
		}
		for i := range k % 6 {
			w.do(call{i, k})
			w.do(frees(i))
		}
		w.calm()
		w.must(call{k % 3, k}, frees((k+1)%3), call{15, k})
		if k%10 == 0 {
			w.crash([]int{k, k / 2, k / 3})
		}
		w.story = nil
	}
	w.goesOn()
}

// longest is the beginning behind which the next call has more operations than any other of many: the store makes itself short there.
func longest(t *testing.T) (beginning []call, next call, ops int) {
	t.Helper()
	w := watch(t)
	var calls []call
	at := 0
	for k := range 400 {
		c := call{k % 5, k}
		if k%7 == 6 {
			c = frees((k - 1) % 5)
		}
		calls = append(calls, c)
		ahead := w.d.Ops()
		w.must(c)
		if done := w.d.Ops() - ahead; done > ops {
			at, ops = k, done
		}
	}
	return calls[:at], calls[at], ops
}

// P5.2, P5.4: the same holds for the call that does most.
func TestTroubleInTheLongestCall(t *testing.T) {
	beginning, c, ops := longest(t)
	for after := range ops {
		for _, m := range troubles(after) {
			w := watch(t)
			w.must(beginning...)
			w.meet(m)
			w.do(c)
			w.crash([]int{3*after + m.kind, 5 * after, after})
			w.must(call{c.shard, 50}, frees(c.shard))
			w.crash(nil)
		}
	}
}

// P5.4: crashes behind crashes, each behind refused calls of its own.
func TestCrashesBehindCrashes(t *testing.T) {
	for after := range 8 {
		for _, m := range troubles(after) {
			w := watch(t)
			for k := range 60 {
				w.must(call{k % 2, k})
				w.meet(m)
				w.do(call{k % 2, k + 1})
				w.do(frees((k + 1) % 2))
				w.crash([]int{k * 7, k * 5, k * 3})
			}
			if len(w.given[0]) < 30 || len(w.given[1]) < 30 {
				w.fatal("given", w.given)
			}
		}
	}
}

// All of it at random: calls, faults, stops, crashes, openings.
func TestLongStories(t *testing.T) {
	for seed := range int64(100) {
		r := rand.New(rand.NewSource(seed))
		w := watch(t)
		for range 300 {
			switch r.Intn(14) {
			case 0, 1:
				w.meet(trouble{r.Intn(12), r.Intn(3)})
			case 2:
				w.meet(trouble{r.Intn(12), -1})
			case 3:
				w.crash([]int{r.Intn(200), -r.Intn(200), r.Int()}[:r.Intn(4)])
			case 4, 5, 6:
				w.do(frees(r.Intn(4)))
			default:
				w.do(call{r.Intn(4) * 5, r.Intn(5)})
			}
		}
		w.crash(nil)
		w.goesOn()
	}
}
