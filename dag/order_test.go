package dag_test

import (
	"fmt"
	"math/rand"
	"slices"
	"testing"

	"tiller/api"
	"tiller/dag"
)

// of is a definition of waits: each is its name and its After.
func of(nodes ...[]string) api.Def {
	var d api.Def
	d.Name = "w"
	for _, n := range nodes {
		d.Nodes = append(d.Nodes, wait(n[0], "s", n[1:]...))
	}
	return d
}

func l(words ...string) []string { return words }

// shape is a definition, its Order and its Depth.
type shape struct {
	what  string
	d     api.Def
	order []int
	all   bool
	depth int
}

func shapes() []shape {
	return []shape{
		{"nothing", api.Def{}, nil, true, 0},
		{"one", of(l("a")), []int{0}, true, 1},
		{"three apart", of(l("a"), l("b"), l("c")), []int{0, 1, 2}, true, 1},
		{"a row", of(l("a"), l("b", "a"), l("c", "b")), []int{0, 1, 2}, true, 3},
		{"a row, backwards", of(l("a", "b"), l("b", "c"), l("c")), []int{2, 1, 0}, true, 3},
		{"the first one that may is told, not the one that waited longest", of(l("a", "c"), l("b"), l("c"), l("d")), []int{1, 2, 0, 3}, true, 2},
		{"two that become free at once", of(l("a", "d"), l("b", "d"), l("c"), l("d"), l("e")), []int{2, 3, 0, 1, 4}, true, 2},
		{"one that becomes free by a freed one", of(l("a", "b"), l("b", "d"), l("c"), l("d")), []int{2, 3, 1, 0}, true, 3},
		{"two ways of two lengths", of(l("a"), l("b", "a"), l("c", "a", "b"), l("d", "a", "c")), []int{0, 1, 2, 3}, true, 4},
		{"the longer row is named first", of(l("a"), l("b", "a"), l("c", "b", "a"), l("d", "c", "a")), []int{0, 1, 2, 3}, true, 4},
		{"the longest row ends early", of(l("a"), l("b", "a"), l("c", "b"), l("d"), l("e", "d")), []int{0, 1, 2, 3, 4}, true, 3},
		{"itself", of(l("a", "a")), nil, false, 0},
		{"itself among others", of(l("a"), l("b", "a", "b"), l("c", "b"), l("d", "a")), []int{0, 3}, false, 2},
		{"nobody", of(l("a", "x"), l("b"), l("c", "a"), l("d", "b", "x")), []int{1}, false, 1},
		{"a ring of two", of(l("a", "b"), l("b", "a"), l("c")), []int{2}, false, 1},
		{"a ring of three, and one behind it", of(l("c"), l("x", "y"), l("y", "z"), l("z", "x"), l("d", "c", "z"), l("e", "c")), []int{0, 5}, false, 2},
		{"one twice", of(l("a"), l("b", "a", "a"), l("c", "b", "a", "b")), []int{0, 1, 2}, true, 3},
		{"two of one name: the first counts", of(l("a", "c"), l("a"), l("b", "a"), l("c")), []int{1, 3, 0, 2}, true, 3},
		{"two of one name: the second does not", of(l("a"), l("a", "b"), l("b", "a"), l("c", "a")), []int{0, 2, 1, 3}, true, 3},
		{"two of one name in a ring", of(l("a", "b"), l("a"), l("b", "a")), []int{1}, false, 1},
		{"the own name, that another has ahead", of(l("a"), l("a", "a"), l("b", "a")), []int{0, 2}, false, 2},
		{"the own name, that another has behind", of(l("a", "a"), l("a"), l("b", "a")), []int{1}, false, 1},
		{"empty names", of(l(""), l("b", ""), l("")), []int{0, 1, 2}, true, 2},
		{"an empty name that is nobody's", of(l("a", ""), l("b")), []int{1}, false, 1},
	}
}

// P8.3: Order, Depth

func TestOrderAndDepth(t *testing.T) {
	for _, x := range shapes() {
		if order, all := dag.Order(x.d); !slices.Equal(order, x.order) || all != x.all {
			t.Fatalf("%s: Order is %v, %v, want %v, %v", x.what, order, all, x.order, x.all)
		}
		if depth := dag.Depth(x.d); depth != x.depth {
			t.Fatalf("%s: Depth is %d, want %d", x.what, depth, x.depth)
		}
		holdOrder(t, x.d)
	}
}

// All definitions of three nodes whose names are a, b or c, and whose After are any of these.
func TestOrderOfAllSmallDefinitions(t *testing.T) {
	names := []string{"a", "b", "c"}
	var afters [][]string
	for set := range 8 {
		var after []string
		for i, name := range names {
			if set>>i&1 == 1 {
				after = append(after, name)
			}
		}
		afters = append(afters, after)
	}
	for n := range 27 {
		for set := range 512 {
			d := of(l(names[n/9]), l(names[n/3%3]), l(names[n%3]))
			for i := range 3 {
				d.Nodes[i].After = afters[set>>(3*i)&7]
			}
			holdOrder(t, d)
			if n == 5 { // a b c
				for marks := range 64 {
					bits := func(m int) []bool { return []bool{m&1 == 1, m&2 == 2, m&4 == 4} }
					holdReady(t, d, bits(marks), bits(marks>>3))
				}
			}
		}
	}
}

// Order hangs on names alone: the other fields may be anything.
func TestOrderOfNodesThatAreWrong(t *testing.T) {
	for _, x := range shapes() {
		d := copyOf(x.d)
		d.Name = "no name"
		for i := range d.Nodes {
			d.Nodes[i].Kind, d.Nodes[i].Arg, d.Nodes[i].To, d.Nodes[i].Delay, d.Nodes[i].Tries = 99-i, "", " ", -1, -7
		}
		holdOrder(t, d)
		if order, all := dag.Order(d); !slices.Equal(order, x.order) || all != x.all {
			t.Fatalf("%s: Order is %v, %v", x.what, order, all)
		}
	}
}

// R1: definitions with far more nodes than Check takes, in orders that make most of the beginnings anew.
func TestOrderOfManyNodes(t *testing.T) {
	const many = 50000
	name := func(i int) string { return fmt.Sprint("n", i) }
	var backwards, zigzag, ring api.Def
	for i := range many {
		backwards.Nodes = append(backwards.Nodes, wait(name(i), "s", name(i+1)))
		ring.Nodes = append(ring.Nodes, wait(name(i), "s", name((i+1)%many)))
	}
	backwards.Nodes[many-1].After = nil
	for i := range 4000 {
		zigzag.Nodes = append(zigzag.Nodes, wait(name(i), "s"))
		if i < 2000 {
			behind(&zigzag, i, name(i+2000))
		}
	}
	order, all := dag.Order(backwards)
	if len(order) != many || order[0] != many-1 || order[many-1] != 0 || !all || dag.Depth(backwards) != many {
		t.Fatal(len(order), all, dag.Depth(backwards))
	}
	if order, all := dag.Order(ring); len(order) != 0 || all || dag.Depth(ring) != 0 {
		t.Fatal(len(order), all, dag.Depth(ring))
	}
	order, all = dag.Order(zigzag)
	for i := range 2000 {
		if !all || order[2*i] != i+2000 || order[2*i+1] != i {
			t.Fatal(i, order[2*i:2*i+2], all)
		}
	}
	if depth := dag.Depth(zigzag); depth != 2 {
		t.Fatal(depth)
	}
}

// P8.5: in Order each node stands behind its After.
func TestEachNodeBehindItsAfter(t *testing.T) {
	r := rand.New(rand.NewSource(86))
	for range 2000 {
		d := rightDef(r)
		order, all := dag.Order(d)
		if sorted := slices.Sorted(slices.Values(order)); !slices.Equal(sorted, numbers(len(d.Nodes))) || !all {
			t.Fatalf("%+v: %v, %v", d, order, all)
		}
		for at, i := range order {
			for _, name := range d.Nodes[i].After {
				if j, ok := dag.Find(d, name); !ok || !slices.Contains(order[:at], j) {
					t.Fatalf("%+v: %v: %d is not behind %q", d, order, i, name)
				}
			}
		}
	}
}

// P8.3: ReadyNodes

func TestReadyNodes(t *testing.T) {
	d := of(l("c", "a", "b"), l("a", "d"), l("b"), l("e", "c"), l("d"))
	y, n := true, false
	for _, x := range []struct {
		over, begun []bool
		want        []int
	}{
		{nil, nil, []int{2, 4}},
		{[]bool{}, []bool{}, []int{2, 4}},
		{nil, []bool{n, n, y}, []int{4}},
		{nil, []bool{y, y, y, y, y}, nil},
		{nil, []bool{y, y, n, y, n}, []int{2, 4}},
		{[]bool{n, y, y}, nil, []int{0, 2, 4}},
		{[]bool{n, y}, nil, []int{2, 4}},
		{[]bool{n, y, y, n, y}, []bool{n, y, y}, []int{0, 4}},
		{[]bool{y, y, y, y, y}, nil, []int{0, 1, 2, 3, 4}},
		{[]bool{y, y, y, y, y}, []bool{y, n, y, n, y}, []int{1, 3}},
		{[]bool{y}, nil, []int{2, 3, 4}},
		{[]bool{n, n, n, n, y, y, y, y}, []bool{n, n, n, n, y, y, n, n, y}, []int{1, 2}},
	} {
		if got := dag.ReadyNodes(d, x.over, x.begun); !slices.Equal(got, x.want) {
			t.Fatalf("ReadyNodes(%v, %v) is %v, want %v", x.over, x.begun, got, x.want)
		}
	}
	if got := dag.ReadyNodes(api.Def{}, []bool{y}, []bool{n}); len(got) != 0 {
		t.Fatal(got)
	}
}

// A node whose After has a name that is nobody's, or its own, is never told, whatever is over.
func TestReadyNodesThatAreNeverTold(t *testing.T) {
	y := slices.Repeat([]bool{true}, 20)
	for _, x := range []struct {
		what string
		d    api.Def
		want []int
	}{
		{"itself", of(l("a", "a"), l("b", "a"), l("c", "b", "c")), []int{1}},
		{"nobody", of(l("a", "x"), l("b", "a"), l("c", "a", "")), []int{1}},
		{"a ring, all of it over", of(l("a", "b"), l("b", "a")), []int{0, 1}},
		{"the own name, that another has ahead", of(l("a"), l("a", "a"), l("b", "a")), []int{0, 2}},
		{"the own name, that another has behind", of(l("a", "a"), l("a"), l("b", "a")), []int{1, 2}},
		{"one twice", of(l("a"), l("b", "a", "a")), []int{0, 1}},
	} {
		if got := dag.ReadyNodes(x.d, y, nil); !slices.Equal(got, x.want) {
			t.Fatalf("%s: %v, want %v", x.what, got, x.want)
		}
	}
	// Of two nodes of one name the first one's mark counts.
	two := of(l("a"), l("a"), l("b", "a"))
	if got := dag.ReadyNodes(two, []bool{false, true}, nil); !slices.Equal(got, []int{0, 1}) {
		t.Fatal(got)
	}
	if got := dag.ReadyNodes(two, []bool{true, false}, []bool{true, true}); !slices.Equal(got, []int{2}) {
		t.Fatal(got)
	}
}

// Told by ReadyNodes one by one, and over at once, the nodes come as Order tells them.
func TestReadyNodesOneByOneAreTheOrder(t *testing.T) {
	r := rand.New(rand.NewSource(87))
	for range 500 {
		d := strangeDef(r)
		order, _ := dag.Order(d)
		marks := make([]bool, len(d.Nodes))
		for _, want := range order {
			if got := dag.ReadyNodes(d, marks, marks); len(got) == 0 || got[0] != want {
				t.Fatalf("%+v: %v, want first %d", d, got, want)
			}
			marks[want] = true
		}
		if got := dag.ReadyNodes(d, marks, marks); len(got) != 0 {
			t.Fatalf("%+v: %v", d, got)
		}
	}
}

// P8.3: Walk

func TestWalkIsStoppedAnywhere(t *testing.T) {
	for _, x := range shapes() {
		walk := dag.Walk(x.d)
		for stop := range len(x.order) + 1 {
			var told []int
			for i, n := range walk {
				if len(told) == stop {
					break
				}
				if n.Name != x.d.Nodes[i].Name {
					t.Fatalf("%s: %d is told as %+v", x.what, i, n)
				}
				told = append(told, i)
			}
			if !slices.Equal(told, x.order[:stop]) {
				t.Fatalf("%s: %v, want %v", x.what, told, x.order[:stop])
			}
		}
		calls := 0
		walk(func(int, api.Node) bool { calls++; return false })
		if calls != min(1, len(x.order)) {
			t.Fatalf("%s: told %d behind the stop", x.what, calls)
		}
	}
}

func TestWalkWithinWalk(t *testing.T) {
	d := of(l("c", "a"), l("a"), l("b", "c"))
	walk := dag.Walk(d)
	out := ""
	for i := range walk {
		for j := range walk {
			out += fmt.Sprint(i, j, ";")
		}
	}
	if out != "1 1;1 0;1 2;0 1;0 0;0 2;2 1;2 0;2 2;" {
		t.Fatal(out)
	}
}

// R2

// full is a definition whose lists have spare room, and a way to see whether they are as they were.
func full(t *testing.T) (d api.Def, asItWas func(what string)) {
	nodes := append(make([]api.Node, 0, 8), wait("c", "s"), wait("a", "s"), wait("b", "s"), wait("spare", "s"), wait("spare", "s"))
	for i, after := range [][]string{{"a", "b", "spare", "spare"}, {"spare", "spare"}, {"a", "spare", "spare"}} {
		nodes[i].After = after[: len(after)-2 : len(after)]
	}
	d = api.Def{Name: "w", Nodes: nodes[:3]}
	tell := func() string {
		out := fmt.Sprintf("%+v", d.Nodes[:cap(d.Nodes)])
		for _, n := range d.Nodes {
			out += fmt.Sprintf("%q", n.After[:cap(n.After)])
		}
		return out
	}
	was := tell()
	return d, func(what string) {
		t.Helper()
		if tell() != was {
			t.Fatalf("%s changed %s to %s", what, was, tell())
		}
	}
}

func TestNothingThatIsHandedInIsChanged(t *testing.T) {
	d, asItWas := full(t)
	over, begun := []bool{true, false, true, true, false}, []bool{false, true, true, false}
	dag.Check(d)
	asItWas("Check")
	dag.Text(d)
	asItWas("Text")
	dag.Order(d)
	asItWas("Order")
	dag.Depth(d)
	asItWas("Depth")
	dag.Find(d, "b")
	asItWas("Find")
	dag.ReadyNodes(d, over[:2], begun[:1])
	asItWas("ReadyNodes")
	if fmt.Sprint(over, begun) != "[true false true true false] [false true true false]" {
		t.Fatal(over, begun)
	}
	for _, n := range dag.Walk(d) {
		n.Name = "changed"
		n.After = append(n.After, "changed")
		for i := range n.After[:cap(n.After)] {
			n.After[:cap(n.After)][i] = "changed"
		}
	}
	asItWas("Walk, or who ranged over it,")
}

// Who ranges over a Walk may change what it tells, and the definition: the next ranging tells the same.
func TestWalkKeepsNothingOfTheDefinition(t *testing.T) {
	d, _ := full(t)
	walk := dag.Walk(d)
	want := "1 {a 4 s  0 0 []};2 {b 4 s  0 0 [a]};0 {c 4 s  0 0 [a b]};"
	tell := func(spoil bool) string {
		out := ""
		for i, n := range walk {
			out += fmt.Sprint(i, n) + ";"
			for j := range n.After[:cap(n.After)] {
				n.After[:cap(n.After)][j] = "changed"
			}
			if spoil {
				for j := range d.Nodes[:cap(d.Nodes)] {
					for k := range d.Nodes[:cap(d.Nodes)][j].After {
						d.Nodes[:cap(d.Nodes)][j].After[k] = "changed"
					}
					d.Nodes[:cap(d.Nodes)][j] = api.Node{Name: "changed"}
				}
			}
		}
		return out
	}
	for _, spoil := range []bool{false, false, true, false} {
		if got := tell(spoil); got != want {
			t.Fatalf("%s, want %s", got, want)
		}
	}
}

func TestAnswersAreNewMemory(t *testing.T) {
	d, asItWas := full(t)
	for range 2 {
		order, _ := dag.Order(d)
		ready := dag.ReadyNodes(d, []bool{true, true}, nil)
		if fmt.Sprint(order, ready) != "[1 2 0] [1 2]" {
			t.Fatal(order, ready)
		}
		for i := range order[:cap(order)] {
			order[:cap(order)][i] = 77
		}
		for i := range ready[:cap(ready)] {
			ready[:cap(ready)][i] = 77
		}
		asItWas("a change of answers")
	}
}

// No list and an empty one are one.
func TestEmptyListsAreNone(t *testing.T) {
	none, empty := of(l("a"), l("b", "a")), of(l("a"), l("b", "a"))
	none.Nodes[0].After, empty.Nodes[0].After = nil, []string{}
	if dag.Text(none) != dag.Text(empty) || dag.Text(none) == "" {
		t.Fatalf("%q, %q", dag.Text(none), dag.Text(empty))
	}
	holdOrder(t, none)
	holdOrder(t, empty)
	holdOrder(t, api.Def{Nodes: []api.Node{}})
	if got := dag.ReadyNodes(empty, []bool{}, nil); !slices.Equal(got, []int{0}) {
		t.Fatal(got)
	}
}
