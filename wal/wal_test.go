package wal_test

import (
	"bytes"
	"fmt"
	"math"
	"slices"
	"strings"
	"testing"

	"tiller/api"
	"tiller/codec"
	"tiller/wal"
	"tiller/world"
)

// told is all that a log tells of its content; the ways in which it tells it must agree.
func told(t *testing.T, l *wal.Log) string {
	t.Helper()
	out := []string{fmt.Sprintf("%d-%d", l.First(), l.Next())}
	next := l.First()
	for i, record := range l.All() {
		if i != next {
			t.Fatalf("All tells %d, want %d", i, next)
		}
		if got, e := l.Read(i); e != api.OK || !bytes.Equal(got, record) {
			t.Fatalf("Read(%d) is %.20q, %d; All tells %.20q", i, got, e, record)
		}
		out = append(out, string(record))
		next++
	}
	if next != l.Next() {
		t.Fatalf("All ends at %d, Next is %d", next, l.Next())
	}
	for _, i := range []int{math.MinInt, -1, l.First() - 1, l.Next(), l.Next() + 1, math.MaxInt} {
		if i >= l.First() && i < l.Next() {
			continue
		}
		if got, e := l.Read(i); len(got) != 0 || e != api.ErrNone {
			t.Fatalf("Read(%d) outside of %s is %.20q, %d", i, out[0], got, e)
		}
	}
	return strings.Join(out, " ")
}

// want ends the test if a log tells something else.
func want(t *testing.T, l *wal.Log, content string) {
	t.Helper()
	if got := told(t, l); got != content {
		t.Fatalf("told %.200q, want %.200q", got, content)
	}
}

// open opens a log; that is no operation of the disk.
func open(t *testing.T, d *world.Disk, n int) *wal.Log {
	t.Helper()
	ops := d.Ops()
	l, e := wal.Open(d, n)
	if l == nil || e != api.OK {
		t.Fatalf("Open(%d) is %v, %d", n, l, e)
	}
	if d.Ops() != ops || l.Failed() {
		t.Fatalf("Open: %d operations, Failed %v", d.Ops()-ops, l.Failed())
	}
	return l
}

// add appends records that must be taken.
func add(t *testing.T, l *wal.Log, records ...string) {
	t.Helper()
	for _, s := range records {
		next := l.Next()
		if i, e := l.Append([]byte(s)); i != next || e != api.OK || l.Failed() || l.Next() != next+1 {
			t.Fatalf("Append(%.20q) is %d, %d, want %d; Failed %v, Next %d", s, i, e, next, l.Failed(), l.Next())
		}
	}
}

// cut cuts, and that must be taken.
func cut(t *testing.T, l *wal.Log, before int) {
	t.Helper()
	if e := l.Cut(before); e != api.OK || l.Failed() {
		t.Fatalf("Cut(%d) is %d, Failed %v", before, e, l.Failed())
	}
}

// junk is bytes of which none make a record of a log, though some are frames.
func junk() [][]byte {
	return [][]byte{
		{0}, {255}, []byte("strange"), make([]byte, 8), make([]byte, 100),
		bytes.Repeat([]byte{255}, 50),
		codec.Frame(nil),
		codec.Frame([]byte("strange")),
		append(codec.Frame([]byte{1, 1, 0, 0}), 7),
		append(codec.Frame([]byte{1, 1}), codec.Frame([]byte{1, 2})...),
		codec.Frame([]byte{0, 0, 0}),
		codec.Frame([]byte{1, 1, 1, 5, 0, 0}),
		append(codec.Frame([]byte{1, 1, 0, 0}), codec.Frame([]byte{1, 1, 1, 5, 0})...),
		codec.Frame([]byte{1, 1, 7, 16, 0, 0, 0, 0, 0, 0, 7, 16, 0, 0, 0, 0, 0, 0}),
	}
}

// P3.1

func TestOpenRefuses(t *testing.T) {
	d := world.NewDisk()
	for _, n := range []int{math.MinInt, -1, 16, 17, 1 << 20, math.MaxInt} {
		if l, e := wal.Open(d, n); l != nil || e != api.ErrArg {
			t.Errorf("Open(%d) is %v, %d", n, l, e)
		}
		if l, e := wal.Open(nil, n); l != nil || e != api.ErrArg {
			t.Errorf("Open(nil, %d) is %v, %d", n, l, e)
		}
	}
	if l, e := wal.Open(nil, 0); l != nil || e != api.ErrArg {
		t.Errorf("Open(nil, 0) is %v, %d", l, e)
	}
	if d.Ops() != 0 {
		t.Errorf("%d operations", d.Ops())
	}
}

func TestOpenOfNothing(t *testing.T) {
	for n := range 16 {
		want(t, open(t, world.NewDisk(), n), "0-0")
	}
}

func TestOpenRefusesNothingElse(t *testing.T) {
	d := world.NewDisk()
	add(t, open(t, d, 0), "a", "b")
	d.Fail(0, 2)
	want(t, open(t, d, 0), "0-2 a b")
	d.Stop(0)
	want(t, open(t, d, 0), "0-2 a b")
}

func TestBytesThatMakeNoRecordArePassedBy(t *testing.T) {
	for _, raw := range junk() {
		for _, kept := range []bool{false, true} {
			d := world.NewDisk()
			for file := range 8 {
				spill(d, 3<<20+file, raw, kept)
			}
			spill(d, 4<<20-1, raw, kept)
			l := open(t, d, 3)
			want(t, l, "0-0")
			add(t, l, "a", "b", "c")
			cut(t, l, 1)
			want(t, l, "1-3 b c")
			want(t, open(t, d, 3), "1-3 b c")
		}
	}
}

func TestBytesBehindTheRecordsArePassedBy(t *testing.T) {
	for _, raw := range junk() {
		for _, kept := range []bool{false, true} {
			d := world.NewDisk()
			l := open(t, d, 3)
			add(t, l, "a", "b", "c")
			cut(t, l, 1)
			for _, file := range d.Files() {
				spill(d, file, raw, kept)
			}
			l = open(t, d, 3)
			want(t, l, "1-3 b c")
			add(t, l, "d")
			want(t, open(t, d, 3), "1-4 b c d")
			d.Crash(nil)
			want(t, open(t, d, 3), "1-4 b c d")
		}
	}
}

// spill puts bytes behind a file's.
func spill(d *world.Disk, file int, raw []byte, kept bool) {
	d.Append(file, raw)
	if kept {
		d.Sync(file)
	}
}

// TestOpenOfAnyBytes holds Open to R1: every beginning of a log's files, and every byte turned, is opened and worked with.
func TestOpenOfAnyBytes(t *testing.T) {
	d := world.NewDisk()
	l := open(t, d, 0)
	add(t, l, "one", "", "three")
	cut(t, l, 1)
	add(t, l, "four")
	d.Fail(2, 0) // all of it is written, but it doesn't count
	if _, e := l.Append([]byte("five")); e != api.ErrIO {
		t.Fatal(e)
	}
	for _, file := range d.Files() {
		for at := range d.Read(file) {
			for _, turn := range []byte{0, 1, 128, 255} {
				x := world.NewDisk()
				for _, other := range d.Files() {
					raw := d.Read(other)
					if other == file && turn == 0 {
						raw = raw[:at]
					} else if other == file {
						raw[at] ^= turn
					}
					spill(x, other, raw, true)
				}
				l := open(t, x, 0)
				add(t, l, "more")
				cut(t, l, l.Next()-1)
				if got := told(t, open(t, x, 0)); got != told(t, l) || !strings.HasSuffix(got, " more") {
					t.Fatalf("file %d, byte %d, turned by %d: %q", file, at, turn, got)
				}
			}
		}
	}
}

// TestOpenOfEntriesThatDoNotFollow: entries like the log's own that no log would write.
func TestOpenOfEntriesThatDoNotFollow(t *testing.T) {
	great := []byte{7, 16, 0, 0, 0, 0, 0, 0}
	heads := [][]byte{
		{1, 1, 0, 0}, {1, 2, 0, 0}, {1, 1, 1, 3, 0}, {1, 1, 1, 2, 0}, {1, 1, 1, 9, 0}, {1, 2, 1, 3, 0}, {0, 0, 0}, {1, 1, 0, 1, 2},
		slices.Concat([]byte{1, 1, 0}, great), slices.Concat([]byte{1, 1}, great, []byte{0}), slices.Concat([]byte{1, 1}, great, great),
		{1, 1, 0}, {1, 1, 1, 16}, slices.Concat([]byte{1, 1}, great),
	}
	for _, a := range heads {
		for _, b := range heads {
			for _, c := range heads {
				d := world.NewDisk()
				for file := range 4 {
					spill(d, file, slices.Concat(codec.Frame(a), codec.Frame(b), codec.Frame(c)), true)
					a, b, c = b, c, a
				}
				l := open(t, d, 0)
				add(t, l, "more")
				cut(t, l, l.Next()-1)
				want(t, open(t, d, 0), told(t, l))
			}
		}
	}
}

// P3.2

func TestAppend(t *testing.T) {
	d := world.NewDisk()
	l := open(t, d, 0)
	for i, s := range []string{"a", "", "\x00", "b", "", string(codec.Frame([]byte("x")))} {
		if got, e := l.Append([]byte(s)); got != i || e != api.OK {
			t.Fatal(i, got, e)
		}
		if got, e := l.Read(i); string(got) != s || e != api.OK {
			t.Fatal(i, got, e)
		}
	}
	if i, e := l.Append(nil); i != 6 || e != api.OK {
		t.Fatal(i, e)
	}
	want(t, open(t, d, 0), told(t, l))
	d.Crash(nil)
	want(t, open(t, d, 0), told(t, l))
}

func TestAppendOfGreatRecords(t *testing.T) {
	d := world.NewDisk()
	l := open(t, d, 0)
	great := strings.Repeat("xy\xff\x00", api.MaxRecord/4)
	for range 2 {
		add(t, l, great, great[1:])
		was, ops := told(t, l), d.Ops()
		for _, size := range []int{api.MaxRecord + 1, 2 * api.MaxRecord} {
			if i, e := l.Append(make([]byte, size)); i != 0 || e != api.ErrLarge || l.Failed() {
				t.Fatal(size, i, e, l.Failed())
			}
		}
		want(t, l, was)
		if d.Ops() != ops {
			t.Fatal("a record too large is laid on the disk")
		}
		d.Crash(nil)
		l = open(t, d, 0)
		want(t, l, was)
	}
	cut(t, l, 3)
	want(t, open(t, d, 0), "3-4 "+great[1:])
}

func TestCut(t *testing.T) {
	for _, c := range []struct {
		before  int
		content string
	}{
		{math.MinInt, "2-5 c d e"}, {-1, "2-5 c d e"}, {0, "2-5 c d e"}, {1, "2-5 c d e"}, {2, "2-5 c d e"},
		{3, "3-5 d e"}, {4, "4-5 e"}, {5, "5-5"}, {6, "5-5"}, {math.MaxInt, "5-5"},
	} {
		d := world.NewDisk()
		l := open(t, d, 0)
		add(t, l, "a", "b", "c", "d", "e")
		cut(t, l, 2)
		cut(t, l, c.before)
		want(t, l, c.content)
		want(t, open(t, d, 0), c.content)
		d.Crash(nil)
		l = open(t, d, 0)
		want(t, l, c.content)
		add(t, l, "f")
		if r, e := l.Read(5); string(r) != "f" || e != api.OK {
			t.Fatal(c.before, r, e)
		}
	}
}

func TestCutOfNothing(t *testing.T) {
	l := open(t, world.NewDisk(), 0)
	for _, before := range []int{math.MinInt, -1, 0, 1, math.MaxInt} {
		cut(t, l, before)
		want(t, l, "0-0")
	}
	add(t, l, "a")
	cut(t, l, 1)
	cut(t, l, 9)
	want(t, l, "1-1")
}

// A Cut that has nothing to do needs no disk.
func TestCutThatIsDoneAlready(t *testing.T) {
	d := world.NewDisk()
	l := open(t, d, 0)
	add(t, l, "a", "b")
	cut(t, l, 1)
	d.Stop(0)
	for _, before := range []int{-1, 0, 1} {
		cut(t, l, before)
	}
	want(t, l, "1-2 b")
	if e := l.Cut(2); e != api.ErrDead || !l.Failed() {
		t.Fatal(e)
	}
}

func TestRuns(t *testing.T) {
	d := world.NewDisk()
	l := open(t, d, 0)
	add(t, l, "a", "b")
	cut(t, l, 1)
	add(t, l, "c")
	want(t, l, "1-3 b c")
	cut(t, l, 9)
	want(t, l, "3-3")
	l = open(t, d, 0)
	add(t, l, "d")
	want(t, l, "3-4 d")
	d.Fail(0, 0)
	if i, e := l.Append([]byte("e")); i != 0 || e != api.ErrIO {
		t.Fatal(i, e)
	}
	if i, e := l.Append([]byte("f")); i != 4 || e != api.OK {
		t.Fatal(i, e)
	}
	want(t, l, "3-5 d f")
}

// P3.3

func TestFailed(t *testing.T) {
	refuse := func(l *wal.Log, d *world.Disk) {
		t.Helper()
		d.Fail(0, 0)
		if i, e := l.Append([]byte("no")); i != 0 || e != api.ErrIO || !l.Failed() {
			t.Fatal(i, e, l.Failed())
		}
	}
	d := world.NewDisk()
	l := open(t, d, 0)
	if l.Failed() {
		t.Fatal("a new one failed")
	}
	add(t, l, "a", "b")
	refuse(l, d)
	l.Read(9)
	told(t, l)
	if !l.Failed() || open(t, d, 0).Failed() {
		t.Fatal("Failed hangs on something else")
	}
	add(t, l, "c")
	refuse(l, d)
	cut(t, l, 1)
	refuse(l, d)
	cut(t, l, 0) // nothing to do, but not refused
	refuse(l, d)
	if _, e := l.Append(make([]byte, api.MaxRecord+1)); e != api.ErrLarge || l.Failed() {
		t.Fatal(e, "refused, but not by the disk")
	}
	d.Fail(0, 0)
	if e := l.Cut(2); e != api.ErrIO || !l.Failed() {
		t.Fatal(e)
	}
	cut(t, l, 2)
	want(t, l, "2-3 c")
}

func TestAllIsStoppedAnywhere(t *testing.T) {
	l := open(t, world.NewDisk(), 0)
	add(t, l, "a", "b", "c", "d")
	cut(t, l, 1)
	all := l.All()
	for most := 1; most <= 3; most++ {
		var got []string
		for i, record := range all {
			got = append(got, fmt.Sprint(i, string(record)))
			if len(got) == most {
				break
			}
		}
		if s := strings.Join(got, " "); s != "1b 2c 3d"[:3*most-1] {
			t.Errorf("stopped behind %d: %q", most, s)
		}
	}
}

func TestAllTellsWhatStandsWhenRangedOver(t *testing.T) {
	l := open(t, world.NewDisk(), 0)
	all := l.All()
	if s := gather(all); s != "" {
		t.Fatal(s)
	}
	add(t, l, "a", "b")
	if s := gather(all); s != "0a 1b" {
		t.Fatal(s)
	}
	cut(t, l, 1)
	add(t, l, "c")
	if s := gather(all); s != "1b 2c" {
		t.Fatal(s)
	}
}

func gather(all func(func(int, []byte) bool)) string {
	var got []string
	for i, record := range all {
		got = append(got, fmt.Sprint(i, string(record)))
	}
	return strings.Join(got, " ")
}

// Who ranges over a log may change it meanwhile: what is told is what stood at the beginning.
func TestAllWhileTheLogChanges(t *testing.T) {
	d := world.NewDisk()
	l := open(t, d, 0)
	add(t, l, "a", "b", "c")
	for k := range 6 {
		add(t, l, fmt.Sprint("x", k))
		was := told(t, l)
		got := fmt.Sprintf("%d-%d", l.First(), l.Next())
		next := l.First()
		for i, record := range l.All() {
			if i != next {
				t.Fatalf("told %d, want %d", i, next)
			}
			next++
			got += " " + string(record)
			d.Fail(i%8, i%3)
			l.Append([]byte("y"))
			l.Cut(i + 1)
			d.Crash(nil)
		}
		if got != was {
			t.Fatalf("told %q, stood %q", got, was)
		}
		l = open(t, d, 0)
	}
}

// R2

func TestMemoryIsNotShared(t *testing.T) {
	d := world.NewDisk()
	l := open(t, d, 0)
	room := []byte("abcdef")
	if _, e := l.Append(room[:3]); e != api.OK || string(room) != "abcdef" {
		t.Fatal(e, room)
	}
	copy(room, "xxxxxx")
	want(t, l, "0-1 abc")
	add(t, l, "de")
	for range 2 {
		for _, record := range l.All() {
			clear(record[:cap(record)])
		}
		for i := range 2 {
			record, _ := l.Read(i)
			clear(record[:cap(record)])
		}
		want(t, l, "0-2 abc de")
		want(t, open(t, d, 0), "0-2 abc de")
		l = open(t, d, 0)
	}
}

// P3.4

func TestOpenTellsWhatTheLastOneHas(t *testing.T) {
	d := world.NewDisk()
	l := open(t, d, 7)
	for k := range 400 {
		if k%5 == 4 {
			cut(t, l, l.First()+k%7)
		} else {
			add(t, l, strings.Repeat(fmt.Sprint(k), k%40))
		}
		x := open(t, d, 7)
		want(t, x, told(t, l))
		if k%3 == 0 {
			l = x
		}
	}
}

func TestOpenBehindRefusalsThatAreOver(t *testing.T) {
	for at := range 12 {
		for kind := range 3 {
			d := world.NewDisk()
			l := open(t, d, 0)
			add(t, l, "a", "b", "c")
			d.Fail(at, kind)
			l.Append([]byte("d"))
			l.Cut(2)
			l.Append([]byte("e"))
			add(t, l, "f")
			want(t, open(t, d, 0), told(t, l))
		}
	}
}

// Logs of one disk

func TestTwoLogsKnowNothingOfEachOther(t *testing.T) {
	d := world.NewDisk()
	spill(d, 16<<20, []byte("beyond"), true)
	var all [16]*wal.Log
	for n := range all {
		all[n] = open(t, d, n)
	}
	for k := range 6 {
		for n, l := range all {
			add(t, l, fmt.Sprint(n, ".", k))
			if n%2 == 1 {
				cut(t, l, k)
			}
			if n%3 == 1 {
				d.Fail(n%6, 2)
				l.Append([]byte("no"))
				l.Append([]byte("no"))
				cut(t, l, l.Next())
			}
		}
	}
	for n, l := range all {
		want(t, open(t, d, n), told(t, l))
		if n%2 == 0 && n%3 != 1 {
			want(t, l, fmt.Sprintf("0-6 %d.0 %d.1 %d.2 %d.3 %d.4 %d.5", n, n, n, n, n, n))
		}
	}
	if string(d.Read(16<<20)) != "beyond" {
		t.Fatal("a file beyond the logs' is touched")
	}
}

// A log touches its own files alone, whatever becomes of its calls.
func TestLogTouchesItsFilesAlone(t *testing.T) {
	for n := range 16 {
		d := world.NewDisk()
		near := []int{n<<20 - 1, (n + 1) << 20}
		for _, file := range near {
			spill(d, file, []byte("near"), false)
		}
		l := open(t, d, n)
		for k := range 60 {
			d.Fail(k%9, k%3)
			l.Append([]byte("a"))
			l.Cut(k / 2)
			d.Crash([]int{7, 7, 7, 7, 7}) // 7: "near" is left whole
			l = open(t, d, n)
			for _, file := range near {
				if file >= 0 && string(d.Read(file)) != "near" {
					t.Fatalf("log %d, file %d: %q", n, file, d.Read(file))
				}
			}
			for _, file := range d.Files() {
				if file>>20 != n && !slices.Contains(near, file) {
					t.Fatalf("log %d has file %d", n, file)
				}
			}
		}
	}
}

// What is cut is given back: the files stay within some times of what the content needs, with faults and without.
func TestFilesStayShort(t *testing.T) {
	for _, every := range []int{10, 100000} {
		d := world.NewDisk()
		l := open(t, d, 0)
		for k := 1; k < 3000; k++ {
			if k%every == 0 {
				d.Fail(k/every%7, 2)
				l.Append([]byte("no"))
				l.Append([]byte("no"))
			}
			add(t, l, strings.Repeat("x", k%50))
			cut(t, l, l.Next()-20)
			size := 0
			for _, file := range d.Files() {
				size += len(d.Read(file))
			}
			if size > 5000 {
				t.Fatalf("%d bytes for %d records, behind %d", size, l.Next()-l.First(), k)
			}
		}
	}
}

// Calls cost what they change, not what the log holds: else this takes hours.
func TestManyRecords(t *testing.T) {
	d := world.NewDisk()
	l := open(t, d, 0)
	record := strings.Repeat("r", 100)
	for i := range 40000 {
		if i == 20000 {
			d.Fail(1, 0)
			if _, e := l.Append(nil); e != api.ErrIO {
				t.Fatal(e)
			}
		}
		add(t, l, record)
	}
	for i := range 20000 {
		cut(t, l, i+1)
		add(t, l, record)
	}
	l = open(t, d, 0)
	if l.First() != 20000 || l.Next() != 60000 {
		t.Fatal(l.First(), l.Next())
	}
}
