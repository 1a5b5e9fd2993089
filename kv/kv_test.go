package kv_test

import (
	"fmt"
	"maps"
	"math"
	"math/rand"
	"slices"
	"strings"
	"testing"

	"tiller/api"
	"tiller/codec"
	"tiller/kv"
	"tiller/wal"
	"tiller/world"
)

// told is all that a store tells of its content; the ways in which it tells it must agree.
func told(t *testing.T, s *kv.Store) string {
	t.Helper()
	out := []string{fmt.Sprint(s.Fence())}
	list := s.List("", math.MaxInt)
	size, last := 0, ""
	for key, value := range s.Scan("", "") {
		if key <= last {
			t.Fatalf("%q behind %q", key, last)
		}
		if got, there := s.Get(key); got != value || !there {
			t.Fatalf("Get(%q) is %.20q, %v; Scan tells %.20q", key, got, there, value)
		}
		if len(out) > len(list) || list[len(out)-1] != (api.Pair{Key: key, Value: value}) {
			t.Fatalf("List has not %q where it stands", key)
		}
		out = append(out, key+"="+value)
		size += len(key) + len(value)
		last = key
	}
	if s.Len() != len(out)-1 || s.Size() != size || len(list) != s.Len() {
		t.Fatalf("Len %d, Size %d, List %d; Scan tells %d of %d bytes", s.Len(), s.Size(), len(list), len(out)-1, size)
	}
	return strings.Join(out, " ")
}

// want ends the test if a store tells something else.
func want(t *testing.T, s *kv.Store, content string) {
	t.Helper()
	if got := told(t, s); got != content {
		t.Fatalf("told %.200q, want %.200q", got, content)
	}
}

// open opens a store; that is no operation of the disk.
func open(t *testing.T, d *world.Disk, n int) *kv.Store {
	t.Helper()
	done := d.Ops()
	s, e := kv.Open(d, n)
	if s == nil || e != api.OK || s.Commits() != 0 || d.Ops() != done {
		t.Fatalf("Open(%d) is %v, %d, with %d operations", n, s, e, d.Ops()-done)
	}
	return s
}

// ops are changes: a=1 sets, b takes away.
func ops(text string) []api.Op {
	var out []api.Op
	for _, word := range strings.Fields(text) {
		key, value, sets := strings.Cut(word, "=")
		out = append(out, api.Op{Key: key, Value: value, Gone: !sets})
	}
	return out
}

// commit commits changes that must be taken, behind the fence as it is.
func commit(t *testing.T, s *kv.Store, text string) {
	t.Helper()
	answers(t, s.Commit(s.Fence(), ops(text)), api.OK)
}

func answers(t *testing.T, got, want api.Errno) {
	t.Helper()
	if got != want {
		t.Fatalf("answered %d, want %d", got, want)
	}
}

// refuses ends the test if a call does not refuse so, or changes something.
func refuses(t *testing.T, d *world.Disk, s *kv.Store, call func() api.Errno, refusal api.Errno) {
	t.Helper()
	was, done, commits := told(t, s), d.Ops(), s.Commits()
	answers(t, call(), refusal)
	want(t, s, was)
	if d.Ops() != done || s.Commits() != commits {
		t.Fatalf("%d operations, %d commits", d.Ops()-done, s.Commits()-commits)
	}
}

// stored ends the test if the disk has something else than the store, with a crash or without.
func stored(t *testing.T, d *world.Disk, n int, s *kv.Store) {
	t.Helper()
	was := told(t, s)
	want(t, open(t, d, n), was)
	d.Crash(nil)
	want(t, open(t, d, n), was)
}

// P4.1

func TestOpenRefuses(t *testing.T) {
	d := world.NewDisk()
	for _, n := range []int{math.MinInt, -1, 16, 17, 1 << 20, math.MaxInt} {
		for _, disk := range []*world.Disk{d, nil} {
			if s, e := kv.Open(disk, n); s != nil || e != api.ErrArg {
				t.Errorf("Open(%d) is %v, %d", n, s, e)
			}
		}
	}
	if s, e := kv.Open(nil, 0); s != nil || e != api.ErrArg {
		t.Errorf("Open(nil, 0) is %v, %d", s, e)
	}
	if d.Ops() != 0 {
		t.Errorf("%d operations", d.Ops())
	}
}

func TestOpenOfNothing(t *testing.T) {
	for n := range 16 {
		want(t, open(t, world.NewDisk(), n), "0")
	}
}

func TestOpenRefusesNothingElse(t *testing.T) {
	d := world.NewDisk()
	commit(t, open(t, d, 0), "a=1")
	d.Fail(0, 2)
	want(t, open(t, d, 0), "0 a=1")
	d.Stop(0)
	want(t, open(t, d, 0), "0 a=1")
}

func TestOpenTellsWhatTheLogHas(t *testing.T) {
	d := world.NewDisk()
	s := open(t, d, 7)
	for i := range 300 {
		commit(t, s, fmt.Sprintf("k%d=%d k%d l%d=", i%31, i, i%7, i%3))
		if i%40 == 39 {
			answers(t, s.Raise(i), api.OK)
			stored(t, d, 7, s)
			s = open(t, d, 7)
		}
	}
	stored(t, d, 7, s)
}

// R1: whatever records lie in the log, it opens, and is a store that works; its fence does not fall by them.
func TestOpenOfStrangeRecords(t *testing.T) {
	long := strings.Repeat("x", 201)
	var strange [][]byte
	for _, l := range [][]api.Op{{{Key: ""}}, {{Key: long}}, {{Key: "v", Value: strings.Repeat("v", 65537)}}, ops("ok=1")} {
		raw, _ := codec.Ops(l)
		strange = append(strange, raw, append([]byte{1, 9}, raw...), append([]byte{0}, raw...), append([]byte{1, 77}, raw[:len(raw)-1]...), append([]byte{8}, raw...))
	}
	strange = append(strange, nil, []byte{0}, []byte{0, 0}, []byte{1, 3, 0}, []byte{1, 77}, []byte{7, 255}, []byte("strange"), make([]byte, 100))
	for i := range strange {
		d := world.NewDisk()
		s := open(t, d, 1)
		commit(t, s, "a=1")
		answers(t, s.Raise(2), api.OK)
		l, _ := wal.Open(d, 1)
		for k := range 3 {
			l.Append(strange[(i+k*k)%len(strange)])
		}
		s = open(t, d, 1)
		if value, there := s.Get("a"); value != "1" || !there || s.Fence() < 2 || s.Fence() == 77 {
			t.Fatal(i, value, there, s.Fence())
		}
		for key, value := range s.Scan("", "") {
			if key == "" || len(key) > 200 || len(value) > 65536 {
				t.Fatalf("%d: a key of %d, a value of %d bytes", i, len(key), len(value))
			}
		}
		commit(t, s, "a=2 b=3")
		stored(t, d, 1, s)
		answers(t, s.Compact(), api.OK)
		stored(t, d, 1, s)
	}
}

func TestStoresOfOneDiskKnowNothingOfEachOther(t *testing.T) {
	d, other := world.NewDisk(), world.NewDisk()
	var stores [16]*kv.Store
	for n := range stores {
		stores[n] = open(t, d, n)
		commit(t, stores[n], fmt.Sprintf("a=%d", n))
		answers(t, stores[n].Raise(n+1), api.OK)
	}
	for n, s := range stores {
		want(t, s, fmt.Sprintf("%d a=%d", n+1, n))
		if n%2 == 0 {
			answers(t, s.Compact(), api.OK)
		}
		want(t, open(t, other, n), "0")
	}
	d.Crash(nil)
	for n := range stores {
		want(t, open(t, d, n), fmt.Sprintf("%d a=%d", n+1, n))
	}
}

// P4.2

func TestCommitDoesChangesInOrder(t *testing.T) {
	for _, run := range []struct{ batch, content string }{
		{"a=1", "0 a=1 m=0 n=0"}, {"a=1 a=2", "0 a=2 m=0 n=0"}, {"a=1 a", "0 m=0 n=0"}, {"a=1 a a=3", "0 a=3 m=0 n=0"}, {"a a=1", "0 a=1 m=0 n=0"},
		{"m", "0 n=0"}, {"m m", "0 n=0"}, {"m n", "0"}, {"m m=7", "0 m=7 n=0"}, {"m=7 m", "0 n=0"}, {"z", "0 m=0 n=0"}, {"z y x m", "0 n=0"},
		{"m=", "0 m= n=0"}, {"m=0", "0 m=0 n=0"}, {"c=3 b=2 a=1 m", "0 a=1 b=2 c=3 n=0"}, {"m=long-one n=x", "0 m=long-one n=x"},
	} {
		d := world.NewDisk()
		s := open(t, d, 0)
		commit(t, s, "m=0 n=0")
		commit(t, s, run.batch)
		want(t, s, run.content)
		stored(t, d, 0, s)
		if s.Commits() != 2 {
			t.Fatal(run.batch, s.Commits())
		}
	}
}

func TestKeysAndValuesAreOfAnyBytes(t *testing.T) {
	d := world.NewDisk()
	s := open(t, d, 0)
	var batch []api.Op
	all := make([]byte, 256)
	for i := range all {
		all[i] = byte(i)
		batch = append(batch, api.Op{Key: string(all[i : i+1]), Value: string(all[:i])})
	}
	answers(t, s.Commit(0, batch), api.OK)
	i := 0
	for key, value := range s.Scan("", "") {
		if key != string(all[i:i+1]) || value != string(all[:i]) {
			t.Fatalf("%d: %q", i, key)
		}
		i++
	}
	if i != 256 {
		t.Fatal(i)
	}
	stored(t, d, 0, s)
}

func TestForms(t *testing.T) {
	sized := func(key, value int, gone bool) api.Op {
		return api.Op{Key: strings.Repeat("k", key), Value: strings.Repeat("v", value), Gone: gone}
	}
	for _, run := range []struct {
		op   api.Op
		want api.Errno
	}{
		{sized(0, 0, false), api.ErrForm}, {sized(0, 1, false), api.ErrForm}, {sized(0, 0, true), api.ErrForm},
		{sized(1, 0, false), api.OK}, {sized(1, 1, false), api.OK}, {sized(1, 0, true), api.OK}, {sized(1, 1, true), api.ErrForm},
		{sized(200, 1, false), api.OK}, {sized(201, 1, false), api.ErrForm}, {sized(200, 0, true), api.OK}, {sized(201, 0, true), api.ErrForm},
		{sized(1, 65536, false), api.OK}, {sized(1, 65537, false), api.ErrForm}, {sized(200, 65536, false), api.OK},
		{sized(1, 65536, true), api.ErrForm}, {sized(1, 65537, true), api.ErrForm}, {sized(201, 65537, false), api.ErrForm},
		{sized(api.MaxRecord+1, 0, false), api.ErrForm}, {sized(1, api.MaxRecord+1, false), api.ErrForm},
	} {
		for place := range 3 {
			d := world.NewDisk()
			s := open(t, d, 0)
			commit(t, s, "x=1")
			batch := slices.Insert(ops("y=2 z=3"), place, run.op)
			if run.want != api.OK {
				refuses(t, d, s, func() api.Errno { return s.Commit(0, batch) }, run.want)
				continue
			}
			answers(t, s.Commit(0, batch), api.OK)
			if value, there := s.Get(run.op.Key); value != run.op.Value || there == run.op.Gone {
				t.Fatal(len(run.op.Key), len(run.op.Value), there)
			}
			stored(t, d, 0, s)
		}
	}
}

func TestBatchOfNoChanges(t *testing.T) {
	d := world.NewDisk()
	s := open(t, d, 0)
	for _, none := range [][]api.Op{nil, {}} {
		refuses(t, d, s, func() api.Errno { return s.Commit(0, none) }, api.OK)
		refuses(t, d, s, func() api.Errno { return s.Commit(1, none) }, api.ErrFence)
	}
	d.Stop(0)
	refuses(t, d, s, func() api.Errno { return s.Commit(0, nil) }, api.OK)
}

// large is a batch whose changes have just so many bytes.
func large(t *testing.T, size int) []api.Op {
	t.Helper()
	var batch []api.Op
	for i := range 15 {
		batch = append(batch, api.Op{Key: fmt.Sprintf("k%02d", i), Value: strings.Repeat(string(rune('a'+i)), 65536)})
	}
	batch = append(batch, api.Op{Key: "last", Value: strings.Repeat("v", 300)})
	raw, _ := codec.Ops(batch)
	batch[15].Value = strings.Repeat("v", 300+size-len(raw))
	if raw, e := codec.Ops(batch); len(raw) != size || e != api.OK {
		t.Fatal(len(raw), e)
	}
	return batch
}

func TestLargeBatches(t *testing.T) {
	d := world.NewDisk()
	s := open(t, d, 0)
	commit(t, s, "x=1")
	for _, more := range []int{1, 2, 64} {
		refuses(t, d, s, func() api.Errno { return s.Commit(0, large(t, api.MaxRecord-64+more)) }, api.ErrLarge)
	}
	answers(t, s.Raise(api.MaxNumber), api.OK) // the greatest fence leaves as much room
	answers(t, s.Commit(api.MaxNumber, large(t, api.MaxRecord-64)), api.OK)
	if s.Len() != 17 {
		t.Fatal(s.Len())
	}
	stored(t, d, 0, s)
	answers(t, s.Commit(api.MaxNumber, large(t, api.MaxRecord-65)), api.OK)
	stored(t, d, 0, s)
}

// A batch is measured by its changes, not by what they come to.
func TestLargeBatchOfManyChangesOfOneKey(t *testing.T) {
	d := world.NewDisk()
	s := open(t, d, 0)
	refuses(t, d, s, func() api.Errno { return s.Commit(0, slices.Repeat(ops("a=1 a"), 1<<18)) }, api.ErrLarge)
	answers(t, s.Commit(0, slices.Repeat(ops("a a=1"), 1<<16)), api.OK)
	want(t, s, "0 a=1")
	stored(t, d, 0, s)
}

func TestOrderOfRefusals(t *testing.T) {
	d := world.NewDisk()
	s := open(t, d, 0)
	commit(t, s, "x=1")
	answers(t, s.Raise(5), api.OK)
	tooLarge := large(t, api.MaxRecord-63)
	wrongToo := append(slices.Clone(tooLarge), api.Op{})
	for _, stopped := range []bool{false, true} {
		if stopped {
			d.Stop(0)
		}
		for _, fence := range []int{math.MinInt, -1, 0, 4, 6, api.MaxNumber, math.MaxInt} {
			for _, batch := range [][]api.Op{nil, ops("x=2"), tooLarge, wrongToo, {{}}} {
				refuses(t, d, s, func() api.Errno { return s.Commit(fence, batch) }, api.ErrFence)
			}
		}
		refuses(t, d, s, func() api.Errno { return s.Commit(5, wrongToo) }, api.ErrForm)
		refuses(t, d, s, func() api.Errno { return s.Commit(5, tooLarge) }, api.ErrLarge)
		for _, fence := range []int{math.MinInt, -1, 0, 4, 5} {
			refuses(t, d, s, func() api.Errno { return s.Raise(fence) }, api.ErrFence)
		}
		for _, fence := range []int{api.MaxNumber + 1, math.MaxInt} {
			refuses(t, d, s, func() api.Errno { return s.Raise(fence) }, api.ErrArg)
		}
	}
	answers(t, s.Commit(5, ops("x=2")), api.ErrDead)
	answers(t, s.Raise(6), api.ErrDead)
	want(t, s, "5 x=1")
}

func TestRaise(t *testing.T) {
	d := world.NewDisk()
	s := open(t, d, 0)
	for _, fence := range []int{math.MinInt, -1, 0} {
		refuses(t, d, s, func() api.Errno { return s.Raise(fence) }, api.ErrFence)
	}
	commit(t, s, "a=1")
	for i, fence := range []int{1, 2, 255, 256, 1 << 40, api.MaxNumber - 1, api.MaxNumber} {
		answers(t, s.Raise(fence), api.OK)
		want(t, s, fmt.Sprintf("%d a=1", fence))
		stored(t, d, 0, s)
		refuses(t, d, s, func() api.Errno { return s.Raise(fence) }, api.ErrFence)
		refuses(t, d, s, func() api.Errno { return s.Raise(fence - 1) }, api.ErrFence)
		if s.Commits() != i+2 {
			t.Fatal(s.Commits())
		}
	}
	for _, fence := range []int{api.MaxNumber + 1, math.MaxInt} {
		refuses(t, d, s, func() api.Errno { return s.Raise(fence) }, api.ErrArg)
	}
	answers(t, s.Commit(api.MaxNumber, ops("a b=2")), api.OK)
	stored(t, d, 0, s)
}

func TestRuns(t *testing.T) {
	d := world.NewDisk()
	s := open(t, d, 0)
	answers(t, s.Commit(0, ops("a=1 b=2")), api.OK)
	if value, there := s.Get("a"); value != "1" || !there {
		t.Fatal(value, there)
	}
	if got := fmt.Sprint(s.List("", 1)); got != "[{a 1}]" {
		t.Fatal(got)
	}
	answers(t, s.Raise(3), api.OK)
	answers(t, s.Commit(0, ops("a=9")), api.ErrFence)
	answers(t, s.Commit(3, ops("a c=3")), api.OK)
	answers(t, s.Raise(3), api.ErrFence)
	answers(t, s.Raise(2), api.ErrFence)
	if got := scanned(s.Scan("b", ""), -1); got != "b=2 c=3" {
		t.Fatal(got)
	}
	answers(t, s.Commit(3, []api.Op{{Value: "x"}}), api.ErrForm)
	want(t, open(t, d, 0), "3 b=2 c=3")
	s = open(t, d, 0)
	d.Fail(0, 0)
	answers(t, s.Commit(3, ops("d=4")), api.ErrIO)
	d.Crash(nil)
	if value, there := open(t, d, 0).Get("d"); there && value != "4" || !there && value != "" {
		t.Fatal(value, there)
	}
}

// P4.3

// scanned is what an iterator tells, up to so many (-1: all).
func scanned(pairs func(func(string, string) bool), most int) string {
	var out []string
	for key, value := range pairs {
		out = append(out, key+"="+value)
		if len(out) == most {
			break
		}
	}
	return strings.Join(out, " ")
}

func TestGet(t *testing.T) {
	s := open(t, world.NewDisk(), 0)
	commit(t, s, "a=1 ab=2 b=")
	for key, value := range map[string]string{"a": "1", "ab": "2", "b": ""} {
		if got, there := s.Get(key); got != value || !there {
			t.Error(key, got, there)
		}
	}
	for _, key := range []string{"", "A", "aa", "abc", "c", "a\x00", strings.Repeat("k", 1000)} {
		if got, there := s.Get(key); got != "" || there {
			t.Error(key, got, there)
		}
	}
}

func TestScan(t *testing.T) {
	s := open(t, world.NewDisk(), 0)
	commit(t, s, "c=3 b=2 a=1 ab=4 ab\xff=5 \x00=6 \xff=7 \xff\xff=8")
	for _, run := range []struct{ from, to, want string }{
		{"", "", "\x00=6 a=1 ab=4 ab\xff=5 b=2 c=3 \xff=7 \xff\xff=8"}, {"b", "", "b=2 c=3 \xff=7 \xff\xff=8"}, {"", "b", "\x00=6 a=1 ab=4 ab\xff=5"},
		{"a", "b", "a=1 ab=4 ab\xff=5"}, {"a", "ab", "a=1"}, {"a\x00", "ab\x00", "ab=4"}, {"ab", "ab\xff\x00", "ab=4 ab\xff=5"}, {"aa", "bb", "ab=4 ab\xff=5 b=2"},
		{"b", "a", ""}, {"b", "b", ""}, {"bb", "bc", ""}, {"d", "e", ""}, {"\xff\xff\xff", "", ""}, {"", "\x00", ""}, {"", "\x00\x00", "\x00=6"}, {"\xff", "", "\xff=7 \xff\xff=8"},
		{"c", "a", ""}, {"\xff\xff", "", "\xff\xff=8"},
	} {
		if got := scanned(s.Scan(run.from, run.to), -1); got != run.want {
			t.Errorf("%q to %q: %q, want %q", run.from, run.to, got, run.want)
		}
	}
}

func TestScanIsStoppedAnywhere(t *testing.T) {
	s := open(t, world.NewDisk(), 0)
	var all []string
	for i := range 50 {
		all = append(all, fmt.Sprintf("k%02d=%d", i, i))
	}
	commit(t, s, strings.Join(all, " "))
	pairs := s.Scan("k05", "k45")
	for most := 1; most <= 41; most++ {
		for range 2 {
			if got := scanned(pairs, most); got != strings.Join(all[5:min(45, 5+most)], " ") {
				t.Fatalf("stopped behind %d: %q", most, got)
			}
		}
	}
}

// It tells the pairs as they stand when it is ranged over: not as when it was made, nor as they become meanwhile.
func TestScanOfAStoreThatChanges(t *testing.T) {
	s := open(t, world.NewDisk(), 0)
	pairs, some := s.Scan("", ""), s.Scan("b", "d")
	if got := scanned(pairs, -1); got != "" {
		t.Fatal(got)
	}
	commit(t, s, "a=1 b=2 c=3 d=4")
	if got := scanned(pairs, -1) + ", " + scanned(some, -1); got != "a=1 b=2 c=3 d=4, b=2 c=3" {
		t.Fatal(got)
	}
	var got []string
	for key, value := range pairs {
		got = append(got, key+"="+value)
		commit(t, s, "b c=9 d=8 "+key+"x=7 a e=5")
		got = append(got, "("+scanned(some, 1)+")")
	}
	if text := strings.Join(got, " "); text != "a=1 (c=9) b=2 (bx=7) c=3 (bx=7) d=4 (bx=7)" {
		t.Fatal(text)
	}
	want(t, s, "0 ax=7 bx=7 c=9 cx=7 d=8 dx=7 e=5")
	answers(t, s.Raise(1), api.OK)
	if got := scanned(some, -1); got != "bx=7 c=9 cx=7" {
		t.Fatal(got)
	}
}

func TestList(t *testing.T) {
	s := open(t, world.NewDisk(), 0)
	commit(t, s, "a=1 ab=2 ab\xff=3 abc=4 ac=5 b=6 \x00=7 \xff=8 \xff\xff=9")
	for _, run := range []struct {
		prefix string
		most   int
		want   string
	}{
		{"", 3, "\x00=7 a=1 ab=2"}, {"a", 100, "a=1 ab=2 abc=4 ab\xff=3 ac=5"}, {"a", 5, "a=1 ab=2 abc=4 ab\xff=3 ac=5"}, {"a", 4, "a=1 ab=2 abc=4 ab\xff=3"},
		{"a", 1, "a=1"}, {"ab", math.MaxInt, "ab=2 abc=4 ab\xff=3"}, {"ab", 2, "ab=2 abc=4"}, {"abc", 9, "abc=4"}, {"abcd", 9, ""}, {"x", 9, ""}, {"B", 9, ""},
		{"\xff", 9, "\xff=8 \xff\xff=9"}, {"\xff\xff", 9, "\xff\xff=9"}, {"\xff\xff\xff", 9, ""}, {"\x00", 9, "\x00=7"},
		{"", 0, ""}, {"a", 0, ""}, {"", -1, ""}, {"", math.MinInt, ""}, {"", 9, "\x00=7 a=1 ab=2 abc=4 ab\xff=3 ac=5 b=6 \xff=8 \xff\xff=9"},
	} {
		var got []string
		for _, pair := range s.List(run.prefix, run.most) {
			got = append(got, pair.Key+"="+pair.Value)
		}
		if text := strings.Join(got, " "); text != run.want {
			t.Errorf("%q, %d: %q, want %q", run.prefix, run.most, text, run.want)
		}
	}
}

func TestLenAndSize(t *testing.T) {
	s := open(t, world.NewDisk(), 0)
	for _, run := range []struct {
		batch     string
		len, size int
	}{
		{"a=1", 1, 2}, {"a=12345", 1, 6}, {"bc=", 2, 8}, {"bc=1 bc=123", 2, 11}, {"none", 2, 11}, {"a a", 1, 5}, {"a=1 a", 1, 5}, {"bc", 0, 0},
	} {
		commit(t, s, run.batch)
		if s.Len() != run.len || s.Size() != run.size {
			t.Errorf("%s: %d of %d bytes, want %d of %d", run.batch, s.Len(), s.Size(), run.len, run.size)
		}
	}
}

func TestCommits(t *testing.T) {
	d := world.NewDisk()
	s := open(t, d, 0)
	counts := func(want int) {
		t.Helper()
		if s.Commits() != want {
			t.Fatal(s.Commits(), want)
		}
	}
	counts(0)
	commit(t, s, "a=1 b=2")
	counts(1)
	commit(t, s, "none")
	counts(2)
	answers(t, s.Raise(2), api.OK)
	counts(3)
	answers(t, s.Commit(2, nil), api.OK)
	answers(t, s.Compact(), api.OK)
	answers(t, s.Raise(2), api.ErrFence)
	answers(t, s.Commit(1, ops("a=2")), api.ErrFence)
	answers(t, s.Commit(2, []api.Op{{}}), api.ErrForm)
	d.Fail(0, 0)
	answers(t, s.Commit(2, ops("a=2")), api.ErrIO)
	d.Fail(0, 0)
	answers(t, s.Raise(3), api.ErrIO)
	counts(3)
	for range 500 { // enough of them for the store to compact by itself
		commit(t, s, "a=2")
	}
	counts(503)
	if got := open(t, d, 0).Commits(); got != 0 {
		t.Fatal(got)
	}
	counts(503)
}

// All calls at random beside a map.
func TestStoreIsAMapInOrder(t *testing.T) {
	for seed := range int64(12) {
		r := rand.New(rand.NewSource(seed))
		d := world.NewDisk()
		s, model := open(t, d, 3), map[string]string{}
		for k := range 200 {
			var batch []api.Op
			for range r.Intn(8) {
				op := api.Op{Key: fmt.Sprint(r.Intn(90)), Gone: r.Intn(5) < 2}
				delete(model, op.Key)
				if !op.Gone {
					op.Value = strings.Repeat("v", r.Intn(40))
					model[op.Key] = op.Value
				}
				batch = append(batch, op)
			}
			answers(t, s.Commit(s.Fence(), batch), api.OK)
			out := fmt.Sprint(s.Fence())
			for _, key := range slices.Sorted(maps.Keys(model)) {
				out += " " + key + "=" + model[key]
			}
			want(t, s, out)
			if k%17 == 0 {
				want(t, open(t, d, 3), out)
			}
			if k%60 == 59 {
				answers(t, s.Compact(), api.OK)
				want(t, open(t, d, 3), out)
			}
		}
	}
}

// P4.4

// weight is how many bytes a disk has.
func weight(d *world.Disk) int {
	sum := 0
	for _, file := range d.Files() {
		sum += len(d.Read(file))
	}
	return sum
}

// records is how many a log has.
func records(t *testing.T, d *world.Disk, n int) int {
	t.Helper()
	l, e := wal.Open(d, n)
	answers(t, e, api.OK)
	return l.Next() - l.First()
}

func TestCompactOfAnEmptyStore(t *testing.T) {
	d := world.NewDisk()
	s := open(t, d, 0)
	answers(t, s.Compact(), api.OK)
	want(t, s, "0")
	commit(t, s, "a=1")
	commit(t, s, "a")
	answers(t, s.Compact(), api.OK)
	want(t, s, "0")
	stored(t, d, 0, s)
	if records(t, d, 0) != 0 {
		t.Fatal(records(t, d, 0))
	}
	commit(t, s, "b=1")
	stored(t, d, 0, s)
}

// The fence is content, too, though there be no keys.
func TestCompactKeepsTheFence(t *testing.T) {
	d := world.NewDisk()
	s := open(t, d, 0)
	for fence := range 50 {
		answers(t, s.Raise(fence+1), api.OK)
		answers(t, s.Compact(), api.OK)
		if records(t, d, 0) != 1 {
			t.Fatal(records(t, d, 0))
		}
		stored(t, d, 0, s)
		s = open(t, d, 0)
	}
	want(t, s, "50")
	answers(t, s.Commit(49, ops("a=1")), api.ErrFence)
}

func TestCompactLeavesWhatTheContentNeeds(t *testing.T) {
	d := world.NewDisk()
	s := open(t, d, 0)
	answers(t, s.Raise(7), api.OK)
	for i := range 100 {
		commit(t, s, fmt.Sprintf("k%d=%d gone%d=1", i%10, i, i))
		commit(t, s, fmt.Sprintf("gone%d", i))
	}
	was := told(t, s)
	for range 3 {
		answers(t, s.Compact(), api.OK)
		want(t, s, was)
		stored(t, d, 0, s)
		if records(t, d, 0) != 1 || weight(d) > 200 {
			t.Fatal(records(t, d, 0), weight(d))
		}
		s = open(t, d, 0)
	}
	commit(t, s, "k0 more=1")
	stored(t, d, 0, s)
}

// A content that no record has room for is kept in several.
func TestCompactOfAGreatStore(t *testing.T) {
	d := world.NewDisk()
	s := open(t, d, 0)
	answers(t, s.Raise(api.MaxNumber), api.OK)
	for i := range 40 {
		answers(t, s.Commit(api.MaxNumber, []api.Op{{Key: fmt.Sprintf("%0200d", i), Value: strings.Repeat("v", 65536-i%3)}, {Key: "old", Value: "x"}}), api.OK)
	}
	commit(t, s, "old")
	was := told(t, s)
	for range 2 {
		answers(t, s.Compact(), api.OK)
		want(t, s, was)
		stored(t, d, 0, s)
		if got := records(t, d, 0); got != 3 || weight(d) > s.Size()+40*16 {
			t.Fatal(got, weight(d)-s.Size())
		}
	}
}

// Small pairs need more beside themselves than great ones: the records must hold them all the same.
func TestCompactOfManySmallPairs(t *testing.T) {
	d := world.NewDisk()
	s := open(t, d, 0)
	for i := range 10 {
		var batch []api.Op
		for k := range 30000 {
			batch = append(batch, api.Op{Key: fmt.Sprintf("%d%05d", i, k)})
		}
		answers(t, s.Commit(0, batch), api.OK)
	}
	answers(t, s.Compact(), api.OK)
	again := open(t, d, 0)
	if s.Len() != 300000 || again.Len() != 300000 || again.Size() != s.Size() || weight(d) > 2*s.Size() {
		t.Fatal(s.Len(), again.Len(), weight(d))
	}
}

// A store that is changed for long stays as short as about what it has, opened often or never; and to keep it so takes few operations.
func TestStoreStaysShortByItself(t *testing.T) {
	for _, often := range []int{1, 10, 1 << 30} {
		d := world.NewDisk()
		s := open(t, d, 0)
		commit(t, s, "k=0")
		commit(t, s, "k=1")
		ahead := d.Ops()
		commit(t, s, "k=2")
		one := d.Ops() - ahead
		for i := range 3000 {
			commit(t, s, fmt.Sprintf("k%d=%d", i%10, i))
			answers(t, s.Raise(i+1), api.OK)
			if i%often == 0 {
				s = open(t, d, 0)
			}
			if weight(d) > 1<<14 {
				t.Fatal(i, weight(d))
			}
		}
		stored(t, d, 0, s)
		if done := d.Ops() - ahead; done > 2*6000*one {
			t.Fatal(done, one)
		}
	}
}

// R2

func TestWhatIsHandedInIsNotKeptNorChanged(t *testing.T) {
	d := world.NewDisk()
	s := open(t, d, 0)
	room := ops("a=1 b=2 c=3")
	answers(t, s.Commit(0, room[:2]), api.OK)
	if !slices.Equal(room, ops("a=1 b=2 c=3")) {
		t.Fatal(room)
	}
	room[0], room[1] = api.Op{Key: "x", Value: "9"}, api.Op{Key: "b", Gone: true}
	want(t, s, "0 a=1 b=2")
	answers(t, s.Compact(), api.OK)
	stored(t, d, 0, s)
}

func TestWhatIsAnsweredIsNewMemory(t *testing.T) {
	d := world.NewDisk()
	s := open(t, d, 0)
	commit(t, s, "a=1 b=2 c=3")
	for range 2 {
		list := s.List("", 2)
		other := s.List("", 2)
		for i := range list[:cap(list)] {
			list[:cap(list)][i] = api.Pair{Key: "x", Value: "y"}
		}
		if fmt.Sprint(other) != "[{a 1} {b 2}]" {
			t.Fatal(other)
		}
	}
	want(t, s, "0 a=1 b=2 c=3")
	answers(t, s.Compact(), api.OK)
	stored(t, d, 0, s)
}
