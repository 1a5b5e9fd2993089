package world_test

import (
	"fmt"
	"math"
	"strings"
	"testing"

	"tiller/api"
	"tiller/world"
)

// parcel is one that can be told from others by its text.
func parcel(text string) api.Parcel {
	return api.Parcel{From: len(text), To: -len(text), Bytes: []byte(text)}
}

// row is what is under way, as All tells it.
func row(n *world.Net) string {
	var out []string
	for i, p := range n.All() {
		out = append(out, fmt.Sprintf("%d:%s", i, told(p)))
	}
	return strings.Join(out, " ")
}

func told(p api.Parcel) string {
	return fmt.Sprintf("%d>%d(%s)", p.From, p.To, p.Bytes)
}

// wantRow ends the test if other parcels are under way.
func wantRow(t *testing.T, n *world.Net, parcels string) {
	t.Helper()
	if got := row(n); got != parcels {
		t.Fatalf("under way is %q, want %q", got, parcels)
	}
	if parcels == "" && n.Len() != 0 || parcels != "" && n.Len() != 1+strings.Count(parcels, " ") {
		t.Fatalf("under way are %d, want %q", n.Len(), parcels)
	}
}

// netOf has these parcels, and room for more.
func netOf(t *testing.T, most int, texts ...string) *world.Net {
	t.Helper()
	n := world.NewNet(most)
	for _, text := range texts {
		if !n.Send(parcel(text)) {
			t.Fatal("not sent:", text)
		}
	}
	return n
}

// P1.5

func TestSendIsLastOfTheRow(t *testing.T) {
	n := world.NewNet(3)
	wantRow(t, n, "")
	for i, text := range []string{"a", "bb", "ccc"} {
		if !n.Send(parcel(text)) || n.Len() != i+1 {
			t.Fatal(text, n.Len())
		}
	}
	wantRow(t, n, "0:1>-1(a) 1:2>-2(bb) 2:3>-3(ccc)")
}

func TestFullNetLosesWhatIsSent(t *testing.T) {
	n := netOf(t, 2, "a", "bb")
	if n.Send(parcel("ccc")) || n.Send(api.Parcel{}) {
		t.Fatal("sent:", row(n))
	}
	wantRow(t, n, "0:1>-1(a) 1:2>-2(bb)")
	n.Drop(0)
	if !n.Send(parcel("dddd")) {
		t.Fatal("there is room, and it is not sent")
	}
	wantRow(t, n, "0:2>-2(bb) 1:4>-4(dddd)")
}

func TestNetWithoutRoom(t *testing.T) {
	for _, most := range []int{0, -1, math.MinInt} {
		n := world.NewNet(most)
		if n.Send(parcel("a")) || n.Double(0) || n.Drop(0) {
			t.Fatal(most, row(n))
		}
		wantRow(t, n, "")
	}
	n := world.NewNet(math.MaxInt)
	if !n.Send(parcel("a")) || !n.Double(0) {
		t.Fatal(row(n))
	}
}

func TestLookTellsAndLeaves(t *testing.T) {
	n := netOf(t, 3, "a", "bb", "ccc")
	for i, text := range []string{"a", "bb", "ccc"} {
		if p, ok := n.Look(i); !ok || told(p) != told(parcel(text)) {
			t.Fatal(i, told(p), ok)
		}
	}
	wantRow(t, n, "0:1>-1(a) 1:2>-2(bb) 2:3>-3(ccc)")
}

func TestTakeAndDropKeepTheOrderOfTheOthers(t *testing.T) {
	texts := []string{"a", "bb", "ccc", "dddd"}
	for i, left := range []string{
		"0:2>-2(bb) 1:3>-3(ccc) 2:4>-4(dddd)",
		"0:1>-1(a) 1:3>-3(ccc) 2:4>-4(dddd)",
		"0:1>-1(a) 1:2>-2(bb) 2:4>-4(dddd)",
		"0:1>-1(a) 1:2>-2(bb) 2:3>-3(ccc)",
	} {
		n := netOf(t, 4, texts...)
		if p, ok := n.Take(i); !ok || told(p) != told(parcel(texts[i])) {
			t.Fatal(i, told(p), ok)
		}
		wantRow(t, n, left)
		n = netOf(t, 4, texts...)
		if !n.Drop(i) {
			t.Fatal("not dropped:", i)
		}
		wantRow(t, n, left)
	}
}

func TestDoubleIsLastOfTheRow(t *testing.T) {
	n := netOf(t, 4, "a", "bb")
	if !n.Double(0) || !n.Double(1) {
		t.Fatal("there is room, and it is not doubled")
	}
	wantRow(t, n, "0:1>-1(a) 1:2>-2(bb) 2:1>-1(a) 3:2>-2(bb)")
	for i := range 4 {
		if n.Double(i) {
			t.Fatal("doubled in a full net:", i)
		}
	}
	wantRow(t, n, "0:1>-1(a) 1:2>-2(bb) 2:1>-1(a) 3:2>-2(bb)")
}

func TestIndicesThatAreNotThere(t *testing.T) {
	for _, texts := range [][]string{nil, {"a", "bb"}} {
		n := netOf(t, 9, texts...)
		was := row(n)
		for _, i := range []int{len(texts), len(texts) + 1, -1, -2, math.MaxInt, math.MinInt} {
			p, looked := n.Look(i)
			q, taken := n.Take(i)
			if looked || taken || n.Drop(i) || n.Double(i) {
				t.Fatal("there is one at", i)
			}
			if told(p) != told(api.Parcel{}) || told(q) != told(api.Parcel{}) || p.Bytes != nil || q.Bytes != nil {
				t.Fatal(i, told(p), told(q))
			}
		}
		wantRow(t, n, was)
	}
}

func TestRunOfTheNet(t *testing.T) {
	n := netOf(t, 9, "a", "bb")
	if !n.Double(0) {
		t.Fatal("not doubled")
	}
	if p, ok := n.Take(1); !ok || told(p) != told(parcel("bb")) || n.Len() != 2 {
		t.Fatal(told(p), ok, n.Len())
	}
}

func TestAllMayBeStoppedAnywhereAndRangedOverAgain(t *testing.T) {
	n := netOf(t, 9, "a", "bb", "ccc", "dddd")
	all := n.All()
	for stop := range 4 {
		var seen []int
		for i, p := range all {
			if p.From != i+1 {
				t.Fatal(i, told(p))
			}
			seen = append(seen, i)
			if i == stop {
				break
			}
		}
		if len(seen) != stop+1 {
			t.Fatal(stop, seen)
		}
	}
	calls := 0
	all(func(int, api.Parcel) bool { calls++; return false })
	if calls != 1 {
		t.Fatal("it goes on behind its stop:", calls)
	}
	wantRow(t, n, "0:1>-1(a) 1:2>-2(bb) 2:3>-3(ccc) 3:4>-4(dddd)")
}

func TestAllTellsWhatStandsWhenItIsRangedOver(t *testing.T) {
	n := netOf(t, 9, "a")
	all := n.All()
	n.Send(parcel("bb"))
	n.Send(parcel("ccc"))
	n.Drop(0)
	var seen []string
	for i, p := range all {
		if i == 0 {
			n.Drop(0)
			n.Send(parcel("dddd"))
			n.Send(parcel("eeeee"))
		}
		seen = append(seen, fmt.Sprintf("%d:%s", i, told(p)))
	}
	if got := strings.Join(seen, " "); got != "0:2>-2(bb) 1:3>-3(ccc)" {
		t.Fatal(got)
	}
	wantRow(t, n, "0:3>-3(ccc) 1:4>-4(dddd) 2:5>-5(eeeee)")
	for range all {
		n.Drop(0)
	}
	wantRow(t, n, "")
	for range all {
		t.Fatal("something is told of nothing")
	}
}

func TestNetSharesNoMemory(t *testing.T) {
	n := world.NewNet(9)
	room := []byte("abcdef")
	n.Send(api.Parcel{Bytes: room[:2]})
	n.Double(0)
	clear(room[:2])
	if string(room[2:]) != "cdef" {
		t.Fatalf("the spare room is changed: %s", room[2:])
	}
	wantRow(t, n, "0:0>0(ab) 1:0>0(ab)")

	look, _ := n.Look(0)
	clear(look.Bytes[:cap(look.Bytes)])
	_ = append(look.Bytes[:0], "zzzzzz"...)
	for _, p := range n.All() {
		clear(p.Bytes[:cap(p.Bytes)])
	}
	wantRow(t, n, "0:0>0(ab) 1:0>0(ab)")

	taken, _ := n.Take(0)
	clear(taken.Bytes[:cap(taken.Bytes)])
	wantRow(t, n, "0:0>0(ab)")
}

func TestNetsKnowNothingOfEachOther(t *testing.T) {
	a, b := netOf(t, 9, "a"), netOf(t, 9)
	wantRow(t, b, "")
	a.Drop(0)
	b.Send(parcel("b"))
	wantRow(t, a, "")
}
