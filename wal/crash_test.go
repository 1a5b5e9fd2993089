package wal_test

import (
	"fmt"
	"math/rand"
	"slices"
	"strings"
	"testing"

	"tiller/api"
	"tiller/wal"
	"tiller/world"
)

// model is a log's content as the document says it.
type model struct {
	first   int
	records []string
}

func (m model) String() string {
	return strings.Join(append([]string{fmt.Sprintf("%d-%d", m.first, m.first+len(m.records))}, m.records...), " ")
}

// call is an Append of a text, or a Cut.
type call struct {
	text   string
	cuts   bool
	before int
}

func put(text string) call {
	return call{text: text}
}

func cutTo(before int) call {
	return call{cuts: true, before: before}
}

// of is the content as it would be, had the call been OK.
func (c call) of(m model) model {
	if !c.cuts {
		return model{m.first, append(slices.Clone(m.records), c.text)}
	}
	first := max(m.first, min(c.before, m.first+len(m.records)))
	return model{first, m.records[first-m.first:]}
}

// maybe are the contents that a crash may leave behind the refused call: that of the call, and, of a Cut, those of lesser ones.
func (c call) maybe(m model) []string {
	out := []string{c.of(m).String()}
	for before := m.first + 1; before < c.before; before++ {
		out = append(out, cutTo(before).of(m).String())
	}
	return out
}

// witness follows a log through its calls, openings and crashes, and holds it to the promises.
type witness struct {
	t       *testing.T
	d       *world.Disk
	l       *wal.Log
	n       int
	now     model
	allowed []string // what a crash may leave beside now
	story   []string
}

func watch(t *testing.T, n int) *witness {
	t.Helper()
	w := &witness{t: t, d: world.NewDisk(), n: n}
	w.l = open(t, w.d, n)
	return w
}

func (w *witness) fatal(what string, got any) {
	w.t.Helper()
	w.t.Fatalf("%s: %v\nbehind %s\nwant %q, or behind a crash one of %q", what, got, strings.Join(w.story, "; "), w.now, w.allowed)
}

// do does a call; by P3.2 and P3.3 it is OK and done, or refused and nothing has changed; it tells which.
func (w *witness) do(c call) bool {
	w.t.Helper()
	next := w.now.first + len(w.now.records)
	var e api.Errno
	i := next
	if !c.cuts {
		i, e = w.l.Append([]byte(c.text))
	} else {
		e = w.l.Cut(c.before)
	}
	w.story = append(w.story, fmt.Sprint(c, e))
	switch e {
	case api.OK:
		if i != next || w.l.Failed() {
			w.fatal("an OK call", fmt.Sprint(i, w.l.Failed()))
		}
		w.now, w.allowed = c.of(w.now), nil
		if got := told(w.t, open(w.t, w.d, w.n)); got != w.now.String() { // P3.4
			w.fatal("opened without a crash", got)
		}
	case api.ErrIO, api.ErrDead:
		if !c.cuts && i != 0 || !w.l.Failed() {
			w.fatal("a refused call", fmt.Sprint(i, w.l.Failed()))
		}
		w.allowed = append(w.allowed, c.maybe(w.now)...)
	default:
		w.fatal("a call", e)
	}
	if got := told(w.t, w.l); got != w.now.String() {
		w.fatal("the log tells", got)
	}
	return e == api.OK
}

// crash crashes the disk; by P3.5 what Open tells is allowed, and from then on it stands, behind further crashes too.
func (w *witness) crash(cuts []int) {
	w.t.Helper()
	w.d.Crash(cuts)
	w.story = append(w.story, fmt.Sprint("crash ", cuts))
	w.l = open(w.t, w.d, w.n)
	got := told(w.t, w.l)
	if got != w.now.String() && !slices.Contains(w.allowed, got) {
		w.fatal("behind a crash", got)
	}
	w.now, w.allowed = model{first: w.l.First()}, nil
	for _, record := range w.l.All() {
		w.now.records = append(w.now.records, string(record))
	}
	w.d.Crash(cuts)
	if got := told(w.t, open(w.t, w.d, w.n)); got != w.now.String() {
		w.fatal("behind a second crash", got)
	}
}

// goesOn: by P3.6 calls are OK when no fault strikes, and what they leave stands.
func (w *witness) goesOn() {
	w.t.Helper()
	for _, c := range []call{put("more"), cutTo(w.l.First() + 1), put(""), cutTo(w.l.Next() + 2), put("end")} {
		if !w.do(c) {
			w.fatal("refused without a fault", c)
		}
		w.crash([]int{5, 5, 5, 5})
	}
}

// copied is a witness of a copy of the disk and its content.
func (w *witness) copied() *witness {
	x := &witness{t: w.t, d: world.NewDisk(), n: w.n, now: w.now, allowed: slices.Clone(w.allowed), story: slices.Clone(w.story)}
	for _, file := range w.d.Files() {
		raw, kept := w.d.Read(file), w.d.Kept(file)
		spill(x.d, file, raw[:kept], true)
		spill(x.d, file, raw[kept:], false)
	}
	return x
}

// cuts are those that leave each number of bytes of the disk's files, whole and torn.
func (w *witness) cuts() [][]int {
	files := w.d.Files()
	most := 0
	for _, file := range files {
		most = max(most, 2*(len(w.d.Read(file))-w.d.Kept(file)))
	}
	out := [][]int{nil}
	for k := 1; k <= most; k++ {
		out = append(out, slices.Repeat([]int{k}, len(files)))
	}
	for i := range files { // one file is lost, the others are left, and the other way round
		lost, left := slices.Repeat([]int{-2}, len(files)), make([]int, len(files))
		lost[i], left[i] = 0, -2
		out = append(out, lost, left)
	}
	return out
}

// crashes tries every crash on copies of the disk.
func (w *witness) crashes() {
	w.t.Helper()
	for i, cuts := range w.cuts() {
		x := w.copied()
		x.crash(cuts)
		if i%5 == 0 {
			x.goesOn()
		}
	}
}

// trouble is a fault of a kind, or (kind -1) a stop, behind some operations.
type trouble struct{ after, kind int }

func (w *witness) meet(m trouble) {
	w.story = append(w.story, fmt.Sprintf("trouble %d of kind %d", m.after, m.kind))
	if m.kind < 0 {
		w.d.Stop(m.after)
	} else {
		w.d.Fail(m.after, m.kind)
	}
}

// spend lets the faults strike that wait still.
func (w *witness) spend() {
	for range 2 * mostOps {
		w.d.Sync(1 << 30)
	}
}

// troubles are all at one of the first operations.
func troubles(most int) []trouble {
	var out []trouble
	for after := range most {
		for _, kind := range []int{-1, 0, 1, 2, 3} {
			out = append(out, trouble{after, kind})
		}
	}
	return out
}

// beginnings are calls by which a log gets to where trouble finds it.
func beginnings() [][]call {
	great := strings.Repeat("x", 200)
	return [][]call{
		nil,
		{put("a")},
		{put(""), put("bb"), put("ccc")},
		{put("a"), put("b"), cutTo(2)},
		{put(great), put("b"), cutTo(1), put("c"), put(great)},
		{put(great), put(great), put("c"), cutTo(1), put("d")},
		{put("a"), put(great), cutTo(1), put(great), cutTo(2), put("c")},
	}
}

// begun is a log behind a beginning.
func begun(t *testing.T, n int, calls []call) *witness {
	t.Helper()
	w := watch(t, n)
	for _, c := range calls {
		if !w.do(c) {
			w.fatal("refused without a fault", c)
		}
	}
	return w
}

// mostOps is more than how many operations a call has.
const mostOps = 12

// P3.2, P3.5, P3.6: one call meets trouble at each of its operations.
func TestOneRefusedCall(t *testing.T) {
	refused := 0
	for _, beginning := range beginnings() {
		for _, m := range troubles(mostOps) {
			for _, c := range []call{put("new"), put(""), cutTo(1), cutTo(2), cutTo(9)} {
				w := begun(t, 2, beginning)
				w.meet(m)
				ahead := w.d.Ops()
				if w.do(c) && w.d.Ops()-ahead <= m.after {
					continue // no operation was met
				}
				refused += len(w.allowed) // one may also be OK where the trouble comes behind it
				w.crashes()
				if m.kind >= 0 {
					w.goesOn()
				}
			}
		}
	}
	if refused == 0 {
		t.Fatal("nothing was ever refused")
	}
}

// P3.2, P3.6: a change needs three operations, also behind one that left nothing on the disk; trouble behind them refuses nothing, and the next change is OK when it is over.
func TestThreeOperationsAreEnough(t *testing.T) {
	for _, beginning := range beginnings()[1:] {
		for _, ahead := range [][]trouble{nil, {{0, 0}}, {{0, 0}, {0, 1}}} {
			for _, m := range []trouble{{3, -1}, {3, 0}, {3, 2}, {4, -1}, {4, 0}, {5, 0}} {
				w := begun(t, 3, beginning)
				for _, a := range ahead {
					w.meet(a)
					if w.do(put("no")) {
						w.fatal("a fault struck", a)
					}
				}
				w.meet(m)
				if !w.do(put("yes")) {
					w.fatal("refused behind three operations", m)
				}
				w.crashes()
				w.spend()
				w.d.Stop(1 << 40)
				w.goesOn()
			}
		}
	}
}

// P3.2: the refusal is the disk's.
func TestRefusalIsTheDisks(t *testing.T) {
	for _, m := range troubles(mostOps) {
		want := api.ErrIO
		if m.kind < 0 {
			want = api.ErrDead
		}
		for _, c := range []call{put("new"), cutTo(1), cutTo(2)} {
			w := begun(t, 0, []call{put("a"), put("b")})
			w.meet(m)
			var e api.Errno
			if !c.cuts {
				_, e = w.l.Append([]byte(c.text))
			} else {
				e = w.l.Cut(c.before)
			}
			if e != api.OK && e != want || m.after == 0 && e != want {
				w.fatal("refused", e)
			}
		}
	}
}

// P3.5: two calls meet trouble of their own, whatever comes behind the second.
func TestTwoRefusedCalls(t *testing.T) {
	calls := []call{put("new"), cutTo(2), cutTo(9)}
	for i, beginning := range beginnings() {
		for _, m1 := range troubles(mostOps) {
			for _, m2 := range troubles(mostOps) {
				if m1.kind == 1 || m1.kind == 3 || m2.kind == 1 || m2.kind == 3 || m1.kind < 0 && m2.kind >= 0 {
					continue
				}
				w := begun(t, 1, beginning)
				w.meet(m1)
				w.do(calls[(m1.after+i)%3])
				w.meet(m2)
				w.do(calls[(m2.after+m1.after/3)%3])
				if len(w.allowed) == 0 {
					continue
				}
				w.crashes()
			}
		}
	}
}

// P3.5: what was refused ahead of a call that was OK is never told, neither at once nor behind any crash.
func TestRefusedAheadOfAnOK(t *testing.T) {
	for _, beginning := range beginnings() {
		for _, m := range troubles(mostOps) {
			if m.kind < 0 {
				continue
			}
			for _, ok := range []call{put("yes"), cutTo(1), cutTo(9)} {
				w := begun(t, 0, beginning)
				for k := range 3 {
					w.meet(m)
					w.do(put(fmt.Sprint("no", k)))
				}
				for !w.do(ok) {
				}
				w.crashes()
				for k := range 12 {
					w.do(put(fmt.Sprint("later", k)))
					w.do(cutTo(w.l.First() + k%3))
				}
				w.crashes()
			}
		}
	}
}

// P3.5: a Cut that has nothing to do is OK too, also of a stopped disk; what was refused ahead of it is not told.
func TestRefusedAheadOfACutOfNothing(t *testing.T) {
	for _, beginning := range beginnings() {
		for _, m := range troubles(mostOps) {
			w := begun(t, 0, beginning)
			w.meet(m)
			w.do(put("no"))
			w.do(cutTo(2))
			w.do(cutTo(-1))
			if len(w.allowed) != 0 {
				w.fatal("a Cut of nothing", w.allowed)
			}
			w.crashes()
		}
	}
}

// P3.5: opened anew without a crash, the log stands as it was, and what the earlier one was refused is not told.
func TestRefusedThenOpenedWithoutACrash(t *testing.T) {
	for _, beginning := range beginnings() {
		for _, m := range troubles(mostOps) {
			if m.kind < 0 {
				continue
			}
			w := begun(t, 0, beginning)
			for k := range 2 {
				w.meet(m)
				w.do(put(fmt.Sprint("no", k)))
				w.do(cutTo(2))
				w.l = open(t, w.d, w.n)
				if got := told(t, w.l); got != w.now.String() {
					w.fatal("opened behind a refusal", got)
				}
				w.allowed = nil
				w.crashes()
			}
			w.spend()
			w.goesOn()
		}
	}
}

// P3.5: the same of a log that has no record yet, with an opening behind each refusal or behind none.
func TestRefusedFromTheBeginningOn(t *testing.T) {
	for m := range mostOps * mostOps * mostOps {
		for opened := range 4 {
			w := watch(t, 0)
			for k, after := range []int{m % mostOps, m / mostOps % mostOps, m / mostOps / mostOps} {
				w.meet(trouble{after, 0})
				w.do(put(fmt.Sprint("no", k)))
				w.spend()
				if opened&(1<<k) != 0 {
					w.l = open(t, w.d, 0)
				}
			}
			w.do(cutTo(0))
			w.crashes()
		}
	}
}

// P3.6: whatever failed before, and however often, calls are OK once no fault strikes.
func TestCallsAreOKWhenFaultsAreOver(t *testing.T) {
	w := watch(t, 15)
	for k := range 500 {
		for after := range k % (2 * mostOps) {
			w.d.Fail(after, k%3)
		}
		for range k % 5 {
			w.do(put(fmt.Sprint("f", k)))
			w.do(cutTo(w.l.First() + 1))
		}
		w.spend()
		if !w.do(put(fmt.Sprint("g", k))) || !w.do(cutTo(w.l.Next()-4)) {
			w.fatal("refused without a fault", k)
		}
		w.story = nil
	}
	w.d.Stop(3)
	w.do(put("h"))
	w.d.Stop(1 << 40) // takes the place of the earlier one: the disk works again
	w.goesOn()
}

// All of it at random: calls, faults, stops, crashes, openings.
func TestLongStories(t *testing.T) {
	for seed := range int64(300) {
		r := rand.New(rand.NewSource(seed))
		w := watch(t, int(seed%16))
		for k := range 120 {
			switch r.Intn(10) {
			case 0, 1:
				w.meet(trouble{r.Intn(8), r.Intn(3)})
			case 2:
				w.meet(trouble{r.Intn(8), -1})
			case 3:
				w.crash([]int{r.Intn(500), r.Intn(500), -r.Intn(500), r.Int()}[:r.Intn(5)])
			case 4, 5:
				w.do(cutTo(w.now.first - 1 + r.Intn(len(w.now.records)+4)))
			default:
				w.do(put(strings.Repeat(fmt.Sprint(k, "."), r.Intn(9))))
			}
		}
		w.crash(nil)
		w.goesOn()
	}
}
