package kv_test

import (
	"fmt"
	"maps"
	"math/rand"
	"slices"
	"strings"
	"testing"

	"tiller/api"
	"tiller/kv"
	"tiller/world"
)

// model is a store's content as the document says it.
type model struct {
	fence int
	pairs map[string]string
}

func (m model) String() string {
	out := []string{fmt.Sprint(m.fence)}
	for _, key := range slices.Sorted(maps.Keys(m.pairs)) {
		out = append(out, key+"="+m.pairs[key])
	}
	return strings.Join(out, " ")
}

// call is a Commit of a batch, a Raise by some, or a Compact.
type call struct {
	batch    string
	raise    int
	compacts bool
}

func put(batch string) call {
	return call{batch: batch}
}

var (
	raises   = call{raise: 1}
	compacts = call{compacts: true}
)

func (c call) String() string {
	switch {
	case c.compacts:
		return "Compact"
	case c.raise > 0:
		return fmt.Sprint("Raise by ", c.raise)
	}
	return fmt.Sprintf("Commit of %.30q", c.batch)
}

// of is the content as it would be, had the call been OK.
func (c call) of(m model) model {
	out := model{m.fence + c.raise, maps.Clone(m.pairs)}
	for _, op := range ops(c.batch) {
		if delete(out.pairs, op.Key); !op.Gone {
			out.pairs[op.Key] = op.Value
		}
	}
	return out
}

// do is the call itself.
func (c call) do(s *kv.Store) api.Errno {
	switch {
	case c.compacts:
		return s.Compact()
	case c.raise > 0:
		return s.Raise(s.Fence() + c.raise)
	}
	return s.Commit(s.Fence(), ops(c.batch))
}

// witness follows a store through its calls, openings and crashes, and holds it to the promises.
type witness struct {
	t       *testing.T
	d       *world.Disk
	s       *kv.Store
	n       int
	now     model
	allowed []string // what a crash may leave beside now
	story   []string
}

func watch(t *testing.T, n int) *witness {
	t.Helper()
	w := &witness{t: t, d: world.NewDisk(), n: n, now: model{0, map[string]string{}}}
	w.s = open(t, w.d, n)
	return w
}

func (w *witness) fatal(what string, got any) {
	w.t.Helper()
	w.t.Fatalf("%s: %.300v\nbehind %s\nwant %.300q, or behind a crash one of %.600q", what, got, strings.Join(w.story, "; "), w.now, w.allowed)
}

// do does a call: it is OK and done, or refused and nothing has changed (P4.2, P4.4); if it is not refused, Open tells that at once (P4.6). It tells whether it was OK.
func (w *witness) do(c call) bool {
	w.t.Helper()
	commits := w.s.Commits()
	e := c.do(w.s)
	w.story = append(w.story, fmt.Sprint(c, " ", e))
	switch {
	case e == api.OK && !c.compacts:
		w.now, w.allowed = c.of(w.now), nil
		if c != put("") {
			commits++
		}
	case e == api.ErrIO || e == api.ErrDead:
		if !c.compacts {
			w.allowed = append(w.allowed, c.of(w.now).String())
		}
	case e != api.OK:
		w.fatal("a call", e)
	}
	if got := told(w.t, w.s); got != w.now.String() || w.s.Commits() != commits {
		w.fatal("the store tells", fmt.Sprint(w.s.Commits()-commits, " too many commits; ", got))
	}
	if e != api.OK {
		return false
	}
	if got := told(w.t, open(w.t, w.d, w.n)); got != w.now.String() {
		w.fatal("opened without a crash", got)
	}
	return true
}

// crash crashes the disk; by P4.5 what Open tells is allowed, and from then on it stands, behind further crashes too; by P4.7 lesser fences stay out.
func (w *witness) crash(cuts []int) {
	w.t.Helper()
	w.d.Crash(cuts)
	w.story = append(w.story, fmt.Sprint("crash ", cuts))
	w.s = open(w.t, w.d, w.n)
	got := told(w.t, w.s)
	if got != w.now.String() && !slices.Contains(w.allowed, got) {
		w.fatal("behind a crash", got)
	}
	w.now, w.allowed = model{w.s.Fence(), maps.Collect(w.s.Scan("", ""))}, nil
	for fence := w.now.fence - 3; fence < w.now.fence; fence++ {
		if e := w.s.Commit(fence, ops("a=fenced")); e != api.ErrFence || w.s.Raise(fence) != api.ErrFence {
			w.fatal("behind a crash a lesser fence", e)
		}
	}
	w.d.Crash(cuts)
	if got := told(w.t, open(w.t, w.d, w.n)); got != w.now.String() {
		w.fatal("behind a second crash", got)
	}
}

// goesOn: by P4.6 calls are OK when no fault strikes, and what they leave stands.
func (w *witness) goesOn() {
	w.t.Helper()
	for _, c := range []call{put("a=more b"), raises, put(""), compacts, put("z=1 a c=3"), compacts, compacts, put("a=end")} {
		if !w.do(c) {
			w.fatal("refused without a fault", c)
		}
		w.crash([]int{5, 5, 5, 5})
	}
}

// copied is a witness of a copy of the disk and its content.
func (w *witness) copied() *witness {
	x := &witness{t: w.t, d: world.NewDisk(), n: w.n, now: w.now, allowed: slices.Clone(w.allowed), story: slices.Clone(w.story)}
	for _, file := range w.d.Files() {
		raw, kept := w.d.Read(file), w.d.Kept(file)
		x.d.Append(file, raw[:kept])
		x.d.Sync(file)
		x.d.Append(file, raw[kept:])
	}
	return x
}

// cuts are those that leave each number of bytes of the disk's files, whole and torn; of great files some of them.
func (w *witness) cuts() [][]int {
	files := w.d.Files()
	most := 0
	for _, file := range files {
		most = max(most, 2*(len(w.d.Read(file))-w.d.Kept(file)))
	}
	out := [][]int{nil}
	for k := 1; k <= most; k += 1 + most/60 {
		out = append(out, slices.Repeat([]int{k}, len(files)))
	}
	for i := range files { // one file is lost, the others are left, and the other way round
		lost, left := slices.Repeat([]int{-2}, len(files)), make([]int, len(files))
		lost[i], left[i] = 0, -2
		out = append(out, lost, left)
	}
	return out
}

// crashes tries every crash on copies of the disk.
func (w *witness) crashes() {
	w.t.Helper()
	for i, cuts := range w.cuts() {
		x := w.copied()
		x.crash(cuts)
		if i%7 == 0 {
			x.goesOn()
		}
	}
}

// trouble is a fault of a kind, or (kind -1) a stop, behind some operations.
type trouble struct{ after, kind int }

func (w *witness) meet(m trouble) {
	w.story = append(w.story, fmt.Sprintf("trouble %d of kind %d", m.after, m.kind))
	if m.kind < 0 {
		w.d.Stop(m.after)
	} else {
		w.d.Fail(m.after, m.kind)
	}
}

// spend lets the faults strike that wait still.
func (w *witness) spend() {
	for range 2 * mostOps {
		w.d.Sync(1 << 30)
	}
}

// mostOps is more than how many operations a call has.
const mostOps = 24

// troubles are all at one of the first operations.
func troubles(most int) []trouble {
	var out []trouble
	for after := range most {
		for _, kind := range []int{-1, 0, 1, 2, 3} {
			out = append(out, trouble{after, kind})
		}
	}
	return out
}

// beginnings are calls by which a store gets to where trouble finds it.
func beginnings() [][]call {
	return [][]call{
		nil,
		{put("a=1 b=2")},
		{raises},
		{put("a=1 b=2"), raises, put("a c=3"), put("d=4 b")},
		{put("a=1 b=2 c=3"), compacts},
		{put("a=1 b=2 c=3"), raises, compacts, put("a d=4"), raises},
		{put("a=1"), put("a")},
	}
}

// begun is a store behind a beginning.
func begun(t *testing.T, n int, calls []call) *witness {
	t.Helper()
	w := watch(t, n)
	for _, c := range calls {
		if !w.do(c) {
			w.fatal("refused without a fault", c)
		}
	}
	return w
}

// P4.2, P4.4, P4.5, P4.6: one call meets trouble at each of its operations.
func TestOneRefusedCall(t *testing.T) {
	refused := map[call]int{}
	for _, beginning := range beginnings() {
		for _, c := range []call{put("a=new b c=3 d= e=5 f=6"), put("a"), raises, compacts} {
			for _, m := range troubles(mostOps) {
				w := begun(t, 2, beginning)
				w.meet(m)
				ahead := w.d.Ops()
				if w.do(c) {
					if w.d.Ops()-ahead <= m.after {
						break // no later operation is there to be met
					}
				} else { // one may also be OK where the trouble comes behind it
					refused[c]++
				}
				w.crashes()
				if m.kind >= 0 {
					w.goesOn()
				}
			}
		}
	}
	if len(refused) != 4 {
		t.Fatal("not all kinds of calls were ever refused", refused)
	}
}

// P4.2: the refusal is the disk's.
func TestRefusalIsTheDisks(t *testing.T) {
	for _, c := range []call{put("a=2"), raises, compacts} {
		for _, m := range troubles(mostOps) {
			want := api.ErrIO
			if m.kind < 0 {
				want = api.ErrDead
			}
			w := begun(t, 0, []call{put("a=1 b=2"), put("c=3")})
			w.meet(m)
			if e := c.do(w.s); e != want && (e != api.OK || m.after == 0) {
				w.fatal("refused", e)
			}
		}
	}
}

// P4.5: two calls meet trouble of their own, whatever comes behind the second.
func TestTwoRefusedCalls(t *testing.T) {
	calls := []call{put("a=no b=no c"), raises, compacts, put("b d=no")}
	for i, beginning := range beginnings() {
		for _, m1 := range troubles(11) {
			for _, m2 := range troubles(11) {
				if m1.kind == 1 || m1.kind == 3 || m2.kind == 1 || m2.kind == 3 || m1.kind < 0 && m2.kind >= 0 || (m1.after+m2.after)%3 != i%3 {
					continue
				}
				w := begun(t, 1, beginning)
				w.meet(m1)
				w.do(calls[(m1.after+i)%4])
				w.meet(m2)
				w.do(calls[(m2.after+m1.after/4)%4])
				w.crashes()
			}
		}
	}
}

// P4.5: several refused calls in a row, and then one that is OK: what was refused ahead of it is never told.
func TestRefusedAheadOfAnOK(t *testing.T) {
	for i, beginning := range beginnings() {
		for _, m := range troubles(8) {
			if m.kind < 0 {
				continue
			}
			for _, ok := range []call{put("a=yes"), raises, put("")} {
				w := begun(t, 0, beginning)
				for k := range 3 {
					w.meet(m)
					w.do([]call{put(fmt.Sprintf("a=no%d b c=no", k)), raises, compacts}[(i+k)%3])
				}
				for !w.do(ok) {
				}
				if len(w.allowed) != 0 {
					w.fatal("behind an OK", w.allowed)
				}
				w.crashes()
				for k := range 12 {
					w.do([]call{put(fmt.Sprint("a=later b=", k)), raises, put("b c=1"), compacts}[k%4])
				}
				w.spend()
				w.crashes()
			}
		}
	}
}

// P4.5, P4.6: a Commit of nothing is OK too, also of a stopped disk; what was refused ahead of it is not told.
func TestRefusedAheadOfACommitOfNothing(t *testing.T) {
	for _, beginning := range beginnings() {
		for _, m := range troubles(8) {
			w := begun(t, 0, beginning)
			w.meet(m)
			w.do(put("a=no b"))
			w.do(put(""))
			w.crashes()
		}
	}
}

// P4.6: whatever failed before, and however often, calls are OK once no fault strikes.
func TestCallsAreOKWhenFaultsAreOver(t *testing.T) {
	w := watch(t, 15)
	for k := range 300 {
		for after := range k % (2 * mostOps) {
			w.d.Fail(after, k%3)
		}
		for i := range k % 5 {
			w.do(put(fmt.Sprintf("f%d=%d g", i, k)))
			w.do(raises)
			w.do(compacts)
		}
		w.spend()
		for _, c := range []call{put(fmt.Sprint("g=", k)), raises, compacts} {
			if !w.do(c) {
				w.fatal("refused without a fault", c)
			}
		}
		w.story = nil
	}
	w.d.Stop(3)
	w.do(put("h=1"))
	w.d.Stop(1 << 40) // takes the place of the earlier one: the disk works again
	w.goesOn()
}

// P4.5: a batch of many keys is there whole or not at all.
func TestBatchesAreWholeOrNotThere(t *testing.T) {
	var first, second []string
	for i := range 60 {
		first = append(first, fmt.Sprintf("k%02d=1", i))
		second = append(second, fmt.Sprintf("k%02d=2", i), fmt.Sprintf("l%02d=2", i))
	}
	for _, m := range troubles(8) {
		w := begun(t, 0, []call{put(strings.Join(first, " "))})
		w.meet(m)
		w.do(put(strings.Join(second, " ")))
		w.crashes()
	}
}

// P4.7: once a Raise was OK, no Commit of a lesser fence changes anything, behind crashes and compactions too.
func TestLesserFencesStayOut(t *testing.T) {
	w := watch(t, 4)
	greatest := 0
	for k := range 200 {
		if k%3 == 0 {
			w.meet(trouble{k % 13, k % 4})
		}
		if w.do(call{raise: 1 + k%3}) {
			greatest = w.now.fence
		}
		if k%7 == 0 {
			w.do(compacts)
		}
		if k%5 == 0 {
			w.crash([]int{k, k, k})
		}
		if w.s.Fence() < greatest {
			w.fatal("the fence fell", w.s.Fence())
		}
		greatest = w.s.Fence()
		was := told(t, w.s)
		for fence := -1; fence < greatest; fence++ {
			if e := w.s.Commit(fence, ops("a=fenced")); e != api.ErrFence {
				w.fatal("a lesser fence", e)
			}
		}
		want(t, w.s, was)
		w.do(put(fmt.Sprint("a=", k)))
	}
}

// untilItCompacts are commits behind which the next one makes the store compact by itself; they are found by how many operations each has.
func untilItCompacts(t *testing.T) []call {
	t.Helper()
	w := watch(t, 0)
	var calls []call
	least := 1 << 30
	for k := range 2000 {
		c := put(fmt.Sprintf("a=%d%s b%d=%d", k, strings.Repeat("v", 500), k%3, k))
		ahead := w.d.Ops()
		w.do(c)
		if done := w.d.Ops() - ahead; k > 2 && done > least {
			return calls
		} else if k > 0 {
			least = min(least, done)
		}
		calls = append(calls, c)
	}
	t.Fatal("the store never compacts by itself")
	return nil
}

// P4.4: where a store compacts by itself, a refusal of that is no refusal of the Commit or Raise.
func TestStoreCompactsByItself(t *testing.T) {
	beginning := untilItCompacts(t)
	late := 0
	for _, m := range troubles(mostOps) {
		for _, c := range []call{put("a=" + strings.Repeat("w", 500) + " b1"), raises} {
			w := begun(t, 0, beginning)
			w.meet(m)
			ahead := w.d.Ops()
			ok := w.do(c)
			if ok && w.d.Ops()-ahead > m.after {
				late++
			}
			if m.after == 0 && ok {
				w.fatal("OK, though the disk refused", c)
			}
			w.crashes()
			w.spend()
			if m.kind >= 0 {
				for k := range 6 {
					if c := put(fmt.Sprintf("a=%d%s", k, strings.Repeat("u", 900))); !w.do(c) {
						w.fatal("refused without a fault", c)
					}
				}
				w.crash(nil)
			}
		}
	}
	if late == 0 {
		t.Fatal("no trouble ever met the compaction")
	}
}

// P4.4, P4.5: a store whose content no record has room for compacts in several steps, and each of them may be refused.
func TestCompactOfAGreatStoreIsRefused(t *testing.T) {
	w := watch(t, 0)
	for i := range 17 {
		answers(t, w.s.Commit(0, []api.Op{{Key: fmt.Sprint("k", i), Value: strings.Repeat(fmt.Sprint(i), 65536)[:65536]}, {Key: "gone", Value: "x"}}), api.OK)
	}
	for _, c := range []call{put("gone"), raises} {
		answers(t, c.do(w.s), api.OK)
	}
	w.now = model{w.s.Fence(), maps.Collect(w.s.Scan("", ""))}
	for after := range mostOps {
		for _, kind := range []int{-1, 2} {
			x := w.copied()
			x.s = open(t, x.d, x.n)
			x.meet(trouble{after, kind})
			if x.do(compacts) {
				return
			}
			if kind > 0 && !x.do(put("k1=1 k20=2")) {
				x.fatal("refused without a fault", after)
			}
			x.crash([]int{-2, -2, -2})
		}
	}
}

// All of it at random: calls, faults, stops, crashes, openings.
func TestLongStories(t *testing.T) {
	for seed := range int64(150) {
		r := rand.New(rand.NewSource(seed))
		w := watch(t, int(seed%16))
		for k := range 120 {
			switch r.Intn(12) {
			case 0, 1:
				w.meet(trouble{r.Intn(12), r.Intn(3)})
			case 2:
				w.meet(trouble{r.Intn(12), -1})
			case 3:
				w.crash([]int{r.Intn(500), r.Intn(500), -r.Intn(500), r.Int()}[:r.Intn(5)])
			case 4:
				w.do(compacts)
			case 5:
				w.do(call{raise: 1 + r.Intn(3)})
			default:
				batch := fmt.Sprintf("k%d=%d%s k%d", r.Intn(9), k, strings.Repeat("v", r.Intn(2)*r.Intn(900)), r.Intn(9))
				w.do(put(strings.Repeat(batch+" ", r.Intn(3))))
			}
		}
		w.crash(nil)
		w.goesOn()
	}
}
