package world_test

import (
	"bytes"
	"fmt"
	"math"
	"slices"
	"strings"
	"testing"

	"tiller/api"
	"tiller/world"
)

// show is all that a disk tells of its files: number, bytes, how many are kept.
func show(d *world.Disk) string {
	var out []string
	for _, f := range d.Files() {
		out = append(out, fmt.Sprintf("%d:%x/%d", f, d.Read(f), d.Kept(f)))
	}
	return strings.Join(out, " ")
}

// want ends the test if a disk has other files than those.
func want(t *testing.T, d *world.Disk, files string) {
	t.Helper()
	if got := show(d); got != files {
		t.Fatalf("files are %q, want %q", got, files)
	}
}

// must ends the test if an operation was answered otherwise.
func must(t *testing.T, got, wanted api.Errno) {
	t.Helper()
	if got != wanted {
		t.Fatalf("answered %d, want %d", got, wanted)
	}
}

// operations does each of the three with a file, and says what they answered.
func operations(d *world.Disk, file int) [3]api.Errno {
	return [3]api.Errno{d.Append(file, []byte("x")), d.Sync(file), d.Delete(file)}
}

// disk has file 1 with "ab" kept and "cd" not, file 7 with "e" kept, and file 4 with "fg" not kept.
func disk(t *testing.T) *world.Disk {
	t.Helper()
	d := world.NewDisk()
	must(t, d.Append(7, []byte("e")), api.OK)
	must(t, d.Sync(7), api.OK)
	must(t, d.Append(1, []byte("ab")), api.OK)
	must(t, d.Sync(1), api.OK)
	must(t, d.Append(1, []byte("cd")), api.OK)
	must(t, d.Append(4, []byte("fg")), api.OK)
	want(t, d, "1:61626364/2 4:6667/0 7:65/1")
	return d
}

// P1.1

func TestNewDiskIsEmpty(t *testing.T) {
	d := world.NewDisk()
	want(t, d, "")
	if len(d.Files()) != 0 || d.Ops() != 0 || len(d.Read(0)) != 0 || d.Kept(0) != 0 {
		t.Fatal(d.Files(), d.Ops(), d.Read(0), d.Kept(0))
	}
}

func TestFileWithoutBytesIsNotThere(t *testing.T) {
	d := world.NewDisk()
	must(t, d.Append(3, nil), api.OK)
	must(t, d.Append(3, []byte{}), api.OK)
	must(t, d.Sync(3), api.OK)
	want(t, d, "")
	must(t, d.Append(3, []byte{0}), api.OK)
	must(t, d.Append(3, nil), api.OK)
	want(t, d, "3:00/0")
}

func TestEachOperationCounts(t *testing.T) {
	d := world.NewDisk()
	d.Append(1, []byte("a"))
	d.Sync(1)
	d.Delete(1)
	d.Append(1, nil)
	d.Sync(9)
	d.Delete(9)
	if d.Ops() != 6 {
		t.Fatal("those that are OK:", d.Ops())
	}
	operations(d, -1)
	if d.Ops() != 9 {
		t.Fatal("those of a wrong file:", d.Ops())
	}
	d.Fail(0, 1)
	d.Fail(1, 1)
	d.Fail(2, 1)
	operations(d, 1)
	if d.Ops() != 12 {
		t.Fatal("those that a fault strikes:", d.Ops())
	}
	d.Stop(0)
	operations(d, 1)
	if d.Ops() != 15 {
		t.Fatal("those of a stopped disk:", d.Ops())
	}
	d.Read(1)
	d.Kept(1)
	d.Files()
	d.Fail(0, 1)
	d.Crash(nil)
	if d.Ops() != 15 {
		t.Fatal("what is no operation counts:", d.Ops())
	}
}

func TestFileBelowZeroIsRefused(t *testing.T) {
	for _, file := range []int{-1, -2, math.MinInt} {
		d := disk(t)
		if got := operations(d, file); got != [3]api.Errno{api.ErrArg, api.ErrArg, api.ErrArg} {
			t.Fatal(file, got)
		}
		want(t, d, "1:61626364/2 4:6667/0 7:65/1")
		if len(d.Read(file)) != 0 || d.Kept(file) != 0 {
			t.Fatal(file, d.Read(file), d.Kept(file))
		}
	}
	d := world.NewDisk()
	must(t, d.Append(0, []byte("a")), api.OK)
	must(t, d.Append(math.MaxInt, []byte("b")), api.OK)
	want(t, d, fmt.Sprintf("0:61/0 %d:62/0", math.MaxInt))
}

func TestOrderOfRefusals(t *testing.T) {
	d := world.NewDisk()
	for range 3 {
		d.Fail(0, 1)
		must(t, d.Append(-1, []byte("a")), api.ErrIO)
		d.Fail(0, 1)
		must(t, d.Sync(-1), api.ErrIO)
		d.Fail(0, 1)
		must(t, d.Delete(-1), api.ErrIO)
	}
	d.Stop(0)
	d.Fail(0, 1)
	d.Fail(1, 1)
	d.Fail(2, 1)
	if got := operations(d, -1); got != [3]api.Errno{api.ErrDead, api.ErrDead, api.ErrDead} {
		t.Fatal("stopped, struck, wrong:", got)
	}
	if got := operations(d, -1); got != [3]api.Errno{api.ErrDead, api.ErrDead, api.ErrDead} {
		t.Fatal("stopped, wrong:", got)
	}
}

func TestRefusedHasDoneNothing(t *testing.T) {
	for name, lay := range map[string]func(d *world.Disk, after int){
		"struck":  func(d *world.Disk, after int) { d.Fail(after, 1) },
		"stopped": func(d *world.Disk, after int) { d.Stop(0) },
	} {
		d := disk(t)
		for after := range 3 {
			lay(d, after)
		}
		for i, e := range operations(d, 1) {
			if e == api.OK {
				t.Fatal(name, i, e)
			}
		}
		want(t, d, "1:61626364/2 4:6667/0 7:65/1")
	}
}

func TestDisksKnowNothingOfEachOther(t *testing.T) {
	a, b := world.NewDisk(), world.NewDisk()
	a.Append(1, []byte("a"))
	a.Stop(0)
	a.Fail(0, 1)
	must(t, b.Append(1, []byte("b")), api.OK)
	want(t, a, "1:61/0")
	want(t, b, "1:62/0")
	if a.Ops() != 1 || b.Ops() != 1 {
		t.Fatal(a.Ops(), b.Ops())
	}
}

// P1.2

func TestAppendReadSyncKeptDelete(t *testing.T) {
	d := world.NewDisk()
	must(t, d.Append(5, []byte("ab")), api.OK)
	must(t, d.Append(5, []byte("c")), api.OK)
	if string(d.Read(5)) != "abc" || d.Kept(5) != 0 {
		t.Fatal(d.Read(5), d.Kept(5))
	}
	must(t, d.Sync(5), api.OK)
	must(t, d.Append(5, []byte("de")), api.OK)
	if string(d.Read(5)) != "abcde" || d.Kept(5) != 3 {
		t.Fatal(d.Read(5), d.Kept(5))
	}
	must(t, d.Sync(5), api.OK)
	if d.Kept(5) != 5 {
		t.Fatal(d.Kept(5))
	}
	must(t, d.Delete(5), api.OK)
	if len(d.Read(5)) != 0 || d.Kept(5) != 0 || len(d.Files()) != 0 {
		t.Fatal(show(d))
	}
	must(t, d.Append(5, []byte("f")), api.OK)
	want(t, d, "5:66/0")
}

func TestOperationsTouchOneFile(t *testing.T) {
	d := disk(t)
	must(t, d.Sync(4), api.OK)
	want(t, d, "1:61626364/2 4:6667/2 7:65/1")
	must(t, d.Append(7, []byte("x")), api.OK)
	want(t, d, "1:61626364/2 4:6667/2 7:6578/1")
	must(t, d.Delete(4), api.OK)
	want(t, d, "1:61626364/2 7:6578/1")
}

func TestFileThatIsNotThere(t *testing.T) {
	d := disk(t)
	must(t, d.Sync(2), api.OK)
	must(t, d.Delete(2), api.OK)
	if len(d.Read(2)) != 0 || d.Kept(2) != 0 {
		t.Fatal(d.Read(2), d.Kept(2))
	}
	want(t, d, "1:61626364/2 4:6667/0 7:65/1")
}

func TestDeleteIsDurable(t *testing.T) {
	d := disk(t)
	must(t, d.Delete(1), api.OK)
	must(t, d.Delete(4), api.OK)
	d.Crash([]int{4, 4, 4})
	want(t, d, "7:65/1")
}

func TestFilesRise(t *testing.T) {
	d := world.NewDisk()
	var numbers []int
	for i := range 100 {
		number := i * 37 % 101
		numbers = append(numbers, number)
		must(t, d.Append(number, []byte("a")), api.OK)
	}
	slices.Sort(numbers)
	if !slices.Equal(d.Files(), numbers) {
		t.Fatal(d.Files())
	}
}

func TestDiskSharesNoMemory(t *testing.T) {
	d := world.NewDisk()
	room := []byte("abcdefgh")
	b := room[:3]
	must(t, d.Append(1, b), api.OK)
	must(t, d.Append(1, []byte("ij")), api.OK)
	must(t, d.Append(2, room[3:4]), api.OK)
	if string(room) != "abcdefgh" {
		t.Fatalf("what was handed in is changed: %s", room)
	}
	clear(room)
	want(t, d, "1:616263696a/0 2:64/0")

	read := d.Read(1)
	clear(read[:cap(read)])
	_ = append(read[:0], "zzzzzzzzzzzz"...)
	files := d.Files()
	clear(files[:cap(files)])
	want(t, d, "1:616263696a/0 2:64/0")

	read = d.Read(1)
	must(t, d.Append(1, []byte("k")), api.OK)
	d.Crash([]int{2})
	if string(read) != "abcij" {
		t.Fatalf("what was answered is changed: %s", read)
	}
	want(t, d, "1:9e/1")

	cuts := []int{3, 4, 5, 6}
	d.Append(1, []byte("lm"))
	d.Append(3, []byte("no"))
	d.Crash(cuts[:1])
	if !slices.Equal(cuts, []int{3, 4, 5, 6}) {
		t.Fatal("the cuts are changed:", cuts)
	}
	want(t, d, "1:9e6c6d/3")
}

// P1.3

func TestFaultStrikesTheOperationBehindAfterOthers(t *testing.T) {
	for after := range 5 {
		d := world.NewDisk()
		d.Sync(1)
		d.Fail(after, 1)
		for i := range 8 {
			wanted := api.OK
			if i == after {
				wanted = api.ErrIO
			}
			must(t, d.Append(1, []byte("a")), wanted)
		}
		want(t, d, "1:61616161616161/0")
	}
}

func TestFaultBelowZeroStrikesTheNext(t *testing.T) {
	for _, after := range []int{-1, -7, math.MinInt} {
		d := world.NewDisk()
		d.Sync(1)
		d.Sync(1)
		d.Fail(after, 1)
		must(t, d.Sync(1), api.ErrIO)
		must(t, d.Sync(1), api.OK)
	}
}

func TestFaultCountsAllOperations(t *testing.T) {
	d := world.NewDisk()
	d.Fail(7, 1)
	d.Fail(0, 1)
	must(t, d.Append(1, []byte("a")), api.ErrIO)
	must(t, d.Append(1, []byte("a")), api.OK)
	must(t, d.Sync(1), api.OK)
	must(t, d.Delete(1), api.OK)
	must(t, d.Append(-1, nil), api.ErrArg)
	must(t, d.Sync(-1), api.ErrArg)
	d.Stop(0)
	must(t, d.Delete(1), api.ErrDead)
	d.Stop(100)
	must(t, d.Sync(1), api.ErrIO)
	must(t, d.Sync(1), api.OK)
}

func TestFaultIsSpentAlsoWhereTheDiskIsStopped(t *testing.T) {
	d := world.NewDisk()
	d.Fail(0, 2)
	d.Stop(0)
	must(t, d.Append(1, []byte("abcd")), api.ErrDead)
	want(t, d, "")
	d.Stop(100)
	must(t, d.Append(1, []byte("abcd")), api.OK)
	want(t, d, "1:61626364/0")
}

func TestFaultsOfTheSecondKind(t *testing.T) {
	for b, half := range map[string]string{"": "", "a": "", "ab": "1:61/0", "abc": "1:61/0", "abcd": "1:6162/0", "abcde": "1:6162/0"} {
		d := world.NewDisk()
		d.Fail(0, 2)
		must(t, d.Append(1, []byte(b)), api.ErrIO)
		want(t, d, half)
	}
	d := disk(t)
	d.Fail(0, 2)
	must(t, d.Append(1, []byte("xyz")), api.ErrIO)
	want(t, d, "1:6162636478/2 4:6667/0 7:65/1")
	d.Fail(0, 2)
	must(t, d.Sync(1), api.ErrIO)
	d.Fail(0, 2)
	must(t, d.Delete(1), api.ErrIO)
	d.Fail(0, 2)
	must(t, d.Append(-1, []byte("xyz")), api.ErrIO)
	want(t, d, "1:6162636478/2 4:6667/0 7:65/1")
	if len(d.Read(-1)) != 0 {
		t.Fatal(d.Read(-1))
	}
}

func TestFaultsOfOtherKindsDoNothing(t *testing.T) {
	for _, kind := range []int{math.MinInt, -2, -1, 0, 1, 3, 4, math.MaxInt} {
		d := world.NewDisk()
		d.Fail(0, kind)
		must(t, d.Append(1, []byte("abcd")), api.ErrIO)
		want(t, d, "")
	}
}

func TestHalfOfAnAppendIsNotKept(t *testing.T) {
	d := world.NewDisk()
	d.Fail(0, 2)
	must(t, d.Append(1, []byte("abcd")), api.ErrIO)
	d.Crash(nil)
	want(t, d, "")
}

func TestFirstLaidSaysTheKind(t *testing.T) {
	for _, run := range []struct {
		kinds []int
		files string
	}{
		{[]int{1, 2}, ""},
		{[]int{2, 1}, "1:6162/0"},
		{[]int{0, 2, 2}, ""},
		{[]int{2, 0, 0}, "1:6162/0"},
	} {
		d := world.NewDisk()
		d.Sync(1)
		for _, kind := range run.kinds {
			d.Fail(0, kind)
		}
		must(t, d.Append(1, []byte("abcd")), api.ErrIO)
		want(t, d, run.files)
		must(t, d.Append(2, []byte("e")), api.OK)
	}
	d := world.NewDisk()
	d.Fail(1, 2)
	must(t, d.Sync(1), api.OK)
	d.Fail(-3, 1)
	must(t, d.Append(1, []byte("abcd")), api.ErrIO)
	want(t, d, "1:6162/0")
	must(t, d.Append(1, []byte("c")), api.OK)
}

func TestFaultsWaitBesideEachOther(t *testing.T) {
	d := world.NewDisk()
	d.Fail(4, 1)
	d.Fail(0, 1)
	d.Fail(2, 2)
	for i, wanted := range []api.Errno{api.ErrIO, api.OK, api.ErrIO, api.OK, api.ErrIO, api.OK} {
		if got := d.Append(1, []byte("ab")); got != wanted {
			t.Fatal(i, got)
		}
	}
	want(t, d, "1:61626161626162/0")
}

func TestStop(t *testing.T) {
	for after := range 4 {
		d := world.NewDisk()
		d.Sync(1)
		d.Stop(after)
		for i := range 8 {
			wanted := api.OK
			if i >= after {
				wanted = api.ErrDead
			}
			must(t, d.Append(1, []byte("a")), wanted)
		}
		if len(d.Read(1)) != after {
			t.Fatal(after, show(d))
		}
	}
	for _, after := range []int{0, -1, math.MinInt} {
		d := world.NewDisk()
		d.Sync(1)
		d.Sync(1)
		d.Stop(after)
		if got := operations(d, 1); got != [3]api.Errno{api.ErrDead, api.ErrDead, api.ErrDead} {
			t.Fatal(after, got)
		}
	}
}

func TestStopCountsAllOperations(t *testing.T) {
	d := world.NewDisk()
	d.Stop(5)
	d.Fail(0, 1)
	must(t, d.Append(1, nil), api.ErrIO)
	must(t, d.Append(-1, nil), api.ErrArg)
	must(t, d.Append(1, nil), api.OK)
	must(t, d.Sync(1), api.OK)
	must(t, d.Delete(1), api.OK)
	must(t, d.Delete(1), api.ErrDead)
}

func TestLaterStopTakesThePlaceOfAnEarlierOne(t *testing.T) {
	d := world.NewDisk()
	d.Stop(9)
	d.Stop(1)
	must(t, d.Sync(1), api.OK)
	must(t, d.Sync(1), api.ErrDead)
	d.Stop(2)
	must(t, d.Sync(1), api.OK)
	must(t, d.Sync(1), api.OK)
	must(t, d.Sync(1), api.ErrDead)
	d.Stop(1)
	d.Stop(3)
	must(t, d.Sync(1), api.OK)
	must(t, d.Sync(1), api.OK)
	must(t, d.Sync(1), api.OK)
	must(t, d.Sync(1), api.ErrDead)
}

func TestStoppedDiskIsStillRead(t *testing.T) {
	d := disk(t)
	d.Stop(0)
	want(t, d, "1:61626364/2 4:6667/0 7:65/1")
}

func TestFaultsAndStopsFarAway(t *testing.T) {
	d := world.NewDisk()
	files := ""
	for i, far := range []int{math.MaxInt, math.MaxInt - 1, math.MaxInt - 2, 1 << 62} {
		d.Fail(far, 2)
		d.Stop(far)
		must(t, d.Append(1, []byte("ab")), api.OK)
		must(t, d.Sync(1), api.OK)
		files += "6162"
		want(t, d, fmt.Sprintf("1:%s/%d", files, 2*i+2))
	}
	d.Stop(0)
	must(t, d.Sync(1), api.ErrDead)
	d.Stop(math.MaxInt)
	must(t, d.Sync(1), api.OK)
}

// P1.4

func TestCrashCutsEachFile(t *testing.T) {
	for cut, left := range map[int]string{
		0: "1:6162/2", 1: "1:616263/3", 2: "1:61629c/3", 3: "1:61626364/4", 4: "1:6162639b/4",
		5: "1:6162/2", 6: "1:616263/3", 7: "1:61629c/3", 9: "1:6162639b/4", 12: "1:61629c/3",
		-1: "1:6162639b/4", -2: "1:61626364/4", -3: "1:61629c/3", -4: "1:616263/3", -5: "1:6162/2", -6: "1:6162639b/4",
		math.MaxInt: "1:61629c/3", // 2^63 - 1 is 2 modulo 5
		math.MinInt: "1:61629c/3", // -2^63 too
	} {
		d := world.NewDisk()
		d.Append(1, []byte("ab"))
		d.Sync(1)
		d.Append(1, []byte("cd"))
		d.Crash([]int{cut})
		if got := show(d); got != left {
			t.Errorf("cut %d leaves %q, want %q", cut, got, left)
		}
	}
}

func TestCrashGoesThroughFilesRising(t *testing.T) {
	for _, run := range []struct {
		cuts []int
		left string
	}{
		{nil, "1:6162/2 7:65/1"},
		{[]int{}, "1:6162/2 7:65/1"},
		{[]int{3}, "1:61626364/4 7:65/1"},
		{[]int{0, 3}, "1:6162/2 4:6667/2 7:65/1"},
		{[]int{1, 2}, "1:616263/3 4:99/1 7:65/1"},
		{[]int{4, 4, 4}, "1:6162639b/4 4:6698/2 7:65/1"},
		{[]int{2, 1, -1, 5, 6, 7}, "1:61629c/3 4:66/1 7:65/1"},
	} {
		d := disk(t)
		d.Crash(run.cuts)
		if got := show(d); got != run.left {
			t.Errorf("cuts %v leave %q, want %q", run.cuts, got, run.left)
		}
	}
}

func TestCrashGivesACutToAFileThatHasNothingToLose(t *testing.T) {
	d := world.NewDisk()
	d.Append(1, []byte("a"))
	d.Sync(1)
	d.Append(2, []byte("bc"))
	d.Crash([]int{3, 1})
	want(t, d, "1:61/1 2:62/1")
}

func TestCrashTearsAnyByte(t *testing.T) {
	for b := range 256 {
		d := world.NewDisk()
		d.Append(1, []byte{byte(b)})
		d.Crash([]int{2})
		if got := d.Read(1); len(got) != 1 || int(got[0]) != 255-b {
			t.Fatal(b, got)
		}
	}
}

func TestCrashBehindACrashChangesNothing(t *testing.T) {
	d := disk(t)
	d.Crash([]int{4, 2})
	want(t, d, "1:6162639b/4 4:99/1 7:65/1")
	for cut := -9; cut < 9; cut++ {
		d.Crash([]int{cut, cut, cut})
		want(t, d, "1:6162639b/4 4:99/1 7:65/1")
	}
	world.NewDisk().Crash([]int{1, 2})
}

func TestCrashLeavesNoFaultAndNoStop(t *testing.T) {
	d := world.NewDisk()
	d.Sync(1)
	for after := range 9 {
		d.Fail(after, 1+after%2)
	}
	d.Stop(0)
	must(t, d.Sync(1), api.ErrDead)
	d.Crash(nil)
	if d.Ops() != 2 {
		t.Fatal("Ops does not go on:", d.Ops())
	}
	for range 20 {
		must(t, d.Append(1, []byte("a")), api.OK)
	}
	d.Stop(3)
	d.Crash(nil)
	for range 20 {
		must(t, d.Append(1, []byte("a")), api.OK)
	}
	if d.Ops() != 42 {
		t.Fatal("Ops does not go on:", d.Ops())
	}
	d.Fail(1, 1)
	d.Stop(2)
	must(t, d.Sync(1), api.OK)
	must(t, d.Sync(1), api.ErrIO)
	must(t, d.Sync(1), api.ErrDead)
}

func TestFileGoesOnBehindACrash(t *testing.T) {
	d := world.NewDisk()
	d.Append(1, []byte("abcd"))
	d.Crash([]int{3})
	must(t, d.Append(1, []byte("xy")), api.OK)
	want(t, d, "1:61627879/2")
	d.Crash([]int{1})
	want(t, d, "1:616278/3")
}

func TestRunsOfTheDisk(t *testing.T) {
	for _, run := range []struct {
		name string
		do   func(d *world.Disk) []api.Errno
		said []api.Errno
		left string
	}{
		{"nothing kept", func(d *world.Disk) []api.Errno {
			defer d.Crash(nil)
			return []api.Errno{d.Append(1, []byte("abc"))}
		}, []api.Errno{api.OK}, ""},
		{"two whole", func(d *world.Disk) []api.Errno {
			defer d.Crash([]int{3})
			return []api.Errno{d.Append(1, []byte("abc"))}
		}, []api.Errno{api.OK}, "1:6162/2"},
		{"the second torn", func(d *world.Disk) []api.Errno {
			defer d.Crash([]int{4})
			return []api.Errno{d.Append(1, []byte("abc"))}
		}, []api.Errno{api.OK}, "1:619d/2"},
		{"behind what is kept", func(d *world.Disk) []api.Errno {
			defer d.Crash([]int{1})
			return []api.Errno{d.Append(1, []byte("ab")), d.Sync(1), d.Append(1, []byte("cd"))}
		}, []api.Errno{api.OK, api.OK, api.OK}, "1:616263/3"},
		{"half", func(d *world.Disk) []api.Errno {
			d.Fail(0, 2)
			return []api.Errno{d.Append(1, []byte("abcd"))}
		}, []api.Errno{api.ErrIO}, "1:6162/0"},
		{"stopped", func(d *world.Disk) []api.Errno {
			defer d.Crash(nil)
			d.Stop(1)
			return []api.Errno{d.Append(1, []byte("a")), d.Sync(1)}
		}, []api.Errno{api.OK, api.ErrDead}, ""},
	} {
		d := world.NewDisk()
		if said := run.do(d); !slices.Equal(said, run.said) || show(d) != run.left {
			t.Errorf("%s: %v, %q, want %v, %q", run.name, said, show(d), run.said, run.left)
		}
	}
}

// P1.7

// numbers is a row of numbers that looks as if it had no order, and is always the same.
type numbers uint64

func (n *numbers) below(most int) int {
	*n = *n*6364136223846793005 + 1442695040888963407
	return int(uint64(*n)>>33) % most
}

func (n *numbers) bytes(most int) []byte {
	b := make([]byte, n.below(most))
	for i := range b {
		b[i] = byte(n.below(256))
	}
	return b
}

// leftOf says whether what a crash left of a file is its kept bytes and a beginning of the others, of which the last may be torn.
func leftOf(was []byte, kept int, left []byte) bool {
	if len(left) < kept || len(left) > len(was) || !bytes.Equal(left[:kept], was[:kept]) {
		return false
	}
	if len(left) == kept {
		return true
	}
	last := len(left) - 1
	return bytes.Equal(left[:last], was[:last]) && (left[last] == was[last] || left[last] == 255-was[last])
}

func TestWhatACrashLeaves(t *testing.T) {
	n := numbers(1)
	torn, short := 0, 0
	for range 2000 {
		d := world.NewDisk()
		for range 3 {
			for range n.below(20) {
				file := n.below(4)
				switch n.below(8) {
				case 0:
					d.Sync(file)
				case 1:
					d.Delete(file)
				case 2:
					d.Fail(n.below(3), n.below(3))
				default:
					d.Append(file, n.bytes(5))
				}
			}
			was, kept := [4][]byte{}, [4]int{}
			for file := range 4 {
				was[file], kept[file] = d.Read(file), d.Kept(file)
			}
			d.Crash([]int{n.below(30) - 15, n.below(30) - 15, n.below(30) - 15})
			for file := range 4 {
				left := d.Read(file)
				if !leftOf(was[file], kept[file], left) {
					t.Fatalf("of %x with %d kept there is left %x", was[file], kept[file], left)
				}
				if d.Kept(file) != len(left) {
					t.Fatalf("of %x there are kept %d", left, d.Kept(file))
				}
				if !bytes.HasPrefix(was[file], left) {
					torn++
				}
				if len(left) < len(was[file]) {
					short++
				}
			}
		}
	}
	if torn == 0 || short == 0 {
		t.Fatal("no file was torn, or none was cut:", torn, short)
	}
}
