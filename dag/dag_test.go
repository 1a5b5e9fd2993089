package dag_test

import (
	"fmt"
	"math"
	"slices"
	"strings"
	"testing"

	"tiller/api"
	"tiller/dag"
)

const nameBytes = "0123456789ABCDEFGHIJKLMNOPQRSTUVWXYZabcdefghijklmnopqrstuvwxyz.-_"

// P8.4: names

func TestNameAndFlowByLength(t *testing.T) {
	for n := range 300 {
		s := strings.Repeat("n", n)
		if dag.Name(s) != (n >= 1 && n <= 64) || dag.Flow(s) != (n >= 1 && n <= 256) {
			t.Fatal(n, dag.Name(s), dag.Flow(s))
		}
		s = strings.Repeat("/", n)
		if dag.Name(s) || dag.Flow(s) != (n >= 1 && n <= 256) {
			t.Fatal(n, dag.Name(s), dag.Flow(s))
		}
	}
	if long := strings.Repeat("n", 1<<20); dag.Name(long) || dag.Flow(long) {
		t.Fatal("a text of 2^20 bytes is taken")
	}
}

// Each byte counts, wherever it stands.
func TestNameAndFlowByBytes(t *testing.T) {
	for c := range 256 {
		s := string([]byte{byte(c)})
		name := strings.Contains(nameBytes, s)
		flow := name || s == "/"
		for _, around := range [][2]string{{"", ""}, {"a", ""}, {"", "a"}, {"a", "a"}, {strings.Repeat("a", 63), ""}, {"", strings.Repeat("a", 63)}} {
			text := around[0] + s + around[1]
			if dag.Name(text) != name || dag.Flow(text) != flow {
				t.Fatalf("%q: %v %v", text, dag.Name(text), dag.Flow(text))
			}
		}
		if text := strings.Repeat("a", 255) + s; dag.Flow(text) != flow {
			t.Fatalf("%q: %v", text, dag.Flow(text))
		}
	}
	for _, s := range []string{"é", "ａ", "٣", "a\u00e9", "\xc3", "日本"} {
		if dag.Name(s) || dag.Flow(s) {
			t.Fatalf("%q is taken", s)
		}
	}
}

// P8.2

// fault is one thing that Check refuses, and its place in Check's order: which of its rounds, which node, which refusal of that node.
type fault struct {
	what  string
	place [3]int
	e     api.Errno
	lay   func(d *api.Def)
}

// node is the one that Check tells.
func (f fault) node() int {
	if f.place[0] == 2 || f.place[0] == 3 {
		return f.place[1]
	}
	return -1
}

// base is a definition with two nodes of each kind.
func base() api.Def {
	return def(
		activity("a0", "q"), timer("t0", 5), child("c0", "v"), wait("w0", "s"), send("s0", "x/y", "s"),
		activity("a1", "q"), timer("t1", 0), child("c1", "v"), wait("w1", "s"), send("s1", "x", "s"),
	)
}

// faults are all of Check's refusals, each laid on each node of base that it can befall.
func faults() []fault {
	list := []fault{}
	for _, name := range []string{"", "a/b", "a b", strings.Repeat("n", 65), "\xff"} {
		list = append(list, fault{fmt.Sprintf("the name %q", name), [3]int{0, 0, 0}, api.ErrName, func(d *api.Def) { d.Name = name }})
	}
	list = append(list, fault{"33 nodes", [3]int{1, 0, 0}, api.ErrMany, func(d *api.Def) {
		for i := len(d.Nodes); i < 33; i++ {
			d.Nodes = append(d.Nodes, wait(fmt.Sprint("m", i), "s"))
		}
	}})
	for i, n := range base().Nodes {
		list = append(list, faultsOf(i, n)...)
	}
	return append(list,
		fault{"a ring of two", [3]int{4, 0, 0}, api.ErrLoop, func(d *api.Def) { behind(d, 8, d.Nodes[9].Name); behind(d, 9, d.Nodes[8].Name) }},
		fault{"a ring of three", [3]int{4, 0, 0}, api.ErrLoop, func(d *api.Def) {
			behind(d, 0, d.Nodes[3].Name)
			behind(d, 3, d.Nodes[7].Name)
			behind(d, 7, d.Nodes[0].Name)
		}},
	)
}

func behind(d *api.Def, i int, names ...string) {
	d.Nodes[i].After = append(slices.Clone(d.Nodes[i].After), names...)
}

func faultsOf(i int, n api.Node) []fault {
	var list []fault
	lay := func(what string, round, rank int, e api.Errno, change func(d *api.Def, n *api.Node)) {
		list = append(list, fault{fmt.Sprintf("%d: %s", i, what), [3]int{round, i, rank}, e, func(d *api.Def) { change(d, &d.Nodes[i]) }})
	}
	for _, name := range []string{"", "x/y", "x y", strings.Repeat("n", 65)} {
		lay(fmt.Sprintf("Name %q", name), 2, 0, api.ErrName, func(_ *api.Def, n *api.Node) { n.Name = name })
		if n.Kind != api.Timer {
			lay(fmt.Sprintf("Arg %q", name), 2, 0, api.ErrName, func(_ *api.Def, n *api.Node) { n.Arg = name })
		}
	}
	for _, flow := range []string{"", "x y", strings.Repeat("n", 257)} {
		if n.Kind == api.Send {
			lay(fmt.Sprintf("To %q", flow), 2, 0, api.ErrName, func(_ *api.Def, n *api.Node) { n.To = flow })
		} else if flow != "" {
			lay(fmt.Sprintf("To %q", flow), 2, 2, api.ErrArg, func(_ *api.Def, n *api.Node) { n.To = flow })
		}
	}
	if i > 0 {
		lay("the name of the node ahead", 2, 1, api.ErrTwice, func(d *api.Def, n *api.Node) { n.Name = d.Nodes[i-1].Name })
		lay("the first node's name", 2, 1, api.ErrTwice, func(d *api.Def, n *api.Node) { n.Name = d.Nodes[0].Name })
	}
	for _, delay := range []int{math.MinInt, -1, api.MaxDelay + 1, math.MaxInt} {
		lay(fmt.Sprint("Delay ", delay), 2, 2, api.ErrArg, func(_ *api.Def, n *api.Node) { n.Delay = delay })
	}
	tries := []int{math.MinInt, -1, 1, 2, api.MaxTries, math.MaxInt}
	if n.Kind == api.Activity {
		tries = []int{math.MinInt, -1, 0, api.MaxTries + 1, math.MaxInt}
	} else if n.Kind != api.Timer {
		lay("Delay 1", 2, 2, api.ErrArg, func(_ *api.Def, n *api.Node) { n.Delay = 1 })
		lay("the greatest Delay", 2, 2, api.ErrArg, func(_ *api.Def, n *api.Node) { n.Delay = api.MaxDelay })
	}
	for _, tries := range tries {
		lay(fmt.Sprint("Tries ", tries), 2, 2, api.ErrArg, func(_ *api.Def, n *api.Node) { n.Tries = tries })
	}
	for _, kind := range []int{math.MinInt, -1, 0, 6, math.MaxInt} {
		if n.Kind != api.Timer { // one that is none needs an Arg
			lay(fmt.Sprint("Kind ", kind), 2, 2, api.ErrArg, func(_ *api.Def, n *api.Node) { n.Kind = kind })
		} else {
			lay(fmt.Sprint("Kind ", kind), 2, 0, api.ErrName, func(_ *api.Def, n *api.Node) { n.Kind = kind })
		}
	}
	if n.Kind == api.Timer {
		lay("Arg q", 2, 2, api.ErrArg, func(_ *api.Def, n *api.Node) { n.Arg = "q" })
		lay("a wrong Arg", 2, 2, api.ErrArg, func(_ *api.Def, n *api.Node) { n.Arg = "x y" })
	}
	lay("After nobody", 3, 0, api.ErrNone, func(d *api.Def, _ *api.Node) { behind(d, i, "nobody") })
	lay("After the empty name", 3, 0, api.ErrNone, func(d *api.Def, _ *api.Node) { behind(d, i, "") })
	lay("After one twice", 3, 1, api.ErrTwice, func(d *api.Def, _ *api.Node) { behind(d, i, d.Nodes[9-i].Name, d.Nodes[9-i].Name) })
	lay("After itself twice", 3, 1, api.ErrTwice, func(d *api.Def, _ *api.Node) { behind(d, i, d.Nodes[i].Name, d.Nodes[i].Name) })
	lay("After itself", 4, 0, api.ErrLoop, func(d *api.Def, _ *api.Node) { behind(d, i, d.Nodes[i].Name) })
	return list
}

func holdCheck(t *testing.T, what string, d api.Def, node int, e api.Errno) {
	t.Helper()
	if gotNode, gotE := dag.Check(d); gotNode != node || gotE != e {
		t.Fatalf("%s: Check of %+v is %d, %d, want %d, %d", what, d, gotNode, gotE, node, e)
	}
}

func TestCheckRefusesEachAlone(t *testing.T) {
	holdCheck(t, "nothing wrong", base(), -1, api.OK)
	for _, x := range faults() {
		d := base()
		x.lay(&d)
		holdCheck(t, x.what, d, x.node(), x.e)
	}
}

// Of two faults of two nodes (or of a node and the definition) the one that the chapter names first is told. Where both befall one node the later may undo the first, so that they are held to the oracle.
func TestCheckTellsTheFirstOfTwo(t *testing.T) {
	all := faults()
	for _, x := range all {
		for _, y := range all {
			d := base()
			x.lay(&d)
			y.lay(&d)
			first := x
			if slices.Compare(y.place[:], x.place[:]) < 0 {
				first = y
			}
			node, e := first.node(), first.e
			if x.place[1] == y.place[1] || x.e == api.ErrTwice || y.e == api.ErrTwice || x.e == api.ErrLoop || y.e == api.ErrLoop {
				node, e = checked(d) // names that moved mean other nodes
			}
			holdCheck(t, x.what+" and "+y.what, d, node, e)
		}
	}
}

// Two faults of one node, and their order by hand.
func TestCheckOfOneNodeWithTwoFaults(t *testing.T) {
	a := wait("a", "s")
	for what, x := range map[string]struct {
		n api.Node
		e api.Errno
	}{
		"no name, a known kind":            {api.Node{Kind: api.Wait, Arg: "s", Tries: 1}, api.ErrName},
		"no Arg, the name of another":      {api.Node{Name: "a", Kind: api.Wait}, api.ErrName},
		"no Arg, no kind":                  {api.Node{Name: "b", Kind: 9}, api.ErrName},
		"no flow, the name of another":     {api.Node{Name: "a", Kind: api.Send, Arg: "s", To: " "}, api.ErrName},
		"no flow, a Delay":                 {api.Node{Name: "b", Kind: api.Send, Arg: "s", Delay: 1}, api.ErrName},
		"the name of another, no kind":     {api.Node{Name: "a", Kind: 9, Arg: "s"}, api.ErrTwice},
		"the name of another, Tries":       {api.Node{Name: "a", Kind: api.Activity, Arg: "s"}, api.ErrTwice},
		"the name of another, its own":     {api.Node{Name: "a", Kind: api.Wait, Arg: "s", After: []string{"a"}}, api.ErrTwice},
		"Tries, After nobody":              {api.Node{Name: "b", Kind: api.Activity, Arg: "s", After: []string{"x"}}, api.ErrArg},
		"After one twice ahead of nobody":  {wait("b", "s", "a", "a", "x"), api.ErrNone},
		"After nobody twice":               {wait("b", "s", "x", "x"), api.ErrNone},
		"After one twice, and itself":      {wait("b", "s", "b", "a", "a"), api.ErrTwice},
		"After nobody, and itself":         {wait("b", "s", "b", "x"), api.ErrNone},
		"of no kind, with a wrong To":      {api.Node{Name: "b", Arg: "s", To: " "}, api.ErrArg},
		"a timer with an Arg that is none": {api.Node{Name: "b", Kind: api.Timer, Arg: " "}, api.ErrArg},
	} {
		holdCheck(t, what, def(a, x.n), 1, x.e)
	}
	// All nodes by themselves are looked at ahead of any After.
	holdCheck(t, "After and a later node", def(wait("b", "s", "x"), wait("c", "s", "c", "c"), wait("a", "")), 2, api.ErrName)
	holdCheck(t, "After of two nodes", def(wait("b", "s", "c", "c"), wait("c", "s", "x")), 0, api.ErrTwice)
	holdCheck(t, "a ring ahead of After nobody", def(wait("a", "s", "b"), wait("b", "s", "a"), wait("c", "s", "x")), 2, api.ErrNone)
	holdCheck(t, "a wrong name and no nodes", api.Def{}, -1, api.ErrName)
	holdCheck(t, "a wrong name and wrong nodes", api.Def{Name: " ", Nodes: make([]api.Node, 40)}, -1, api.ErrName)
	holdCheck(t, "wrong nodes, too many", def(make([]api.Node, 40)...), -1, api.ErrMany)
}

func TestCheckOfHowManyNodes(t *testing.T) {
	var nodes []api.Node
	for n := range 70 {
		e := api.OK
		if n < 1 || n > 32 {
			e = api.ErrMany
		}
		holdCheck(t, fmt.Sprint(n, " nodes"), def(nodes...), -1, e)
		nodes = append(nodes, wait(fmt.Sprint("n", n), "s"))
	}
	holdCheck(t, "an empty list", api.Def{Name: "w", Nodes: []api.Node{}}, -1, api.ErrMany)
	holdCheck(t, "very many", def(make([]api.Node, 100000)...), -1, api.ErrMany)
}

func TestCheckTakesTheEdges(t *testing.T) {
	long, flow := strings.Repeat("n", 64), strings.Repeat("f", 256)
	for what, n := range map[string]api.Node{
		"the longest names":  {Name: long, Kind: api.Send, Arg: long, To: flow},
		"the shortest names": {Name: "a", Kind: api.Send, Arg: "a", To: "/"},
		"tries 1":            {Name: "a", Kind: api.Activity, Arg: "q", Tries: 1},
		"tries 10":           {Name: "a", Kind: api.Activity, Arg: "q", Tries: 10},
		"timeout":            {Name: "a", Kind: api.Activity, Arg: "q", Tries: 1, Delay: api.MaxDelay},
		"delay 0":            {Name: "a", Kind: api.Timer},
		"the greatest delay": {Name: "a", Kind: api.Timer, Delay: api.MaxDelay},
		"an empty After":     {Name: "a", Kind: api.Child, Arg: "v", After: []string{}},
	} {
		holdCheck(t, what, def(n), -1, api.OK)
	}
	holdCheck(t, "the longest name", api.Def{Name: long, Nodes: []api.Node{wait("a", "s")}}, -1, api.OK)
	// A definition may ask for itself, and names of nodes, queues, signals and flows know nothing of each other.
	holdCheck(t, "one name for all", def(child("w", "w"), wait("a", "w", "w"), send("b", "w", "w", "a", "w"), activity("c", "a", "b")), -1, api.OK)
}

func TestCheckOfRings(t *testing.T) {
	for size := 1; size <= 32; size++ {
		var nodes []api.Node
		for i := range size {
			nodes = append(nodes, wait(fmt.Sprint("n", i), "s", fmt.Sprint("n", (i+1)%size)))
		}
		holdCheck(t, fmt.Sprint("a ring of ", size), def(nodes...), -1, api.ErrLoop)
		for i := range size {
			open := slices.Clone(nodes)
			open[i].After = nil
			holdCheck(t, fmt.Sprintf("a ring of %d, open at %d", size, i), def(open...), -1, api.OK)
		}
		if size < 32 {
			holdCheck(t, "a ring, and a node behind it", def(append(slices.Clone(nodes), wait("z", "s", "n0"))...), -1, api.ErrLoop)
			holdCheck(t, "a ring, and a node apart", def(append([]api.Node{wait("z", "s")}, nodes...)...), -1, api.ErrLoop)
		}
	}
}

// R1: an After of any length.
func TestCheckOfALongAfter(t *testing.T) {
	long := slices.Repeat([]string{"a"}, 1000000)
	holdCheck(t, "one name very often", def(wait("a", "s"), wait("b", "s", long...)), 1, api.ErrTwice)
	holdCheck(t, "and nobody's at the end", def(wait("a", "s"), wait("b", "s", append(long, "x")...)), 1, api.ErrNone)
	var all []string
	var nodes []api.Node
	for i := range 31 {
		all = append(all, fmt.Sprint("n", i))
		nodes = append(nodes, wait(all[i], "s"))
	}
	holdCheck(t, "all others", def(append(nodes, wait("z", "s", all...))...), -1, api.OK)
	holdCheck(t, "all of them", def(append(nodes, wait("z", "s", append(all, "z")...))...), -1, api.ErrLoop)
	holdCheck(t, "the last one twice", def(append(nodes, wait("z", "s", append(all, "n30")...))...), 31, api.ErrTwice)
}

// P8.3: Find

func TestFind(t *testing.T) {
	d := def(wait("a", "s"), wait("b", "s"), wait("a", "s"), wait("", "s"), wait("c", "s"), wait("b", "s"), wait("x y", "s"))
	for name, want := range map[string]int{"a": 0, "b": 1, "": 3, "c": 4, "x y": 6} {
		if i, ok := dag.Find(d, name); i != want || !ok {
			t.Fatalf("Find of %q is %d, %v", name, i, ok)
		}
	}
	for _, name := range []string{"A", "x", "w", "s", "a ", "aa", "\x00"} {
		if i, ok := dag.Find(d, name); i != 0 || ok {
			t.Fatalf("Find of %q is %d, %v", name, i, ok)
		}
	}
	if i, ok := dag.Find(api.Def{}, ""); i != 0 || ok {
		t.Fatal(i, ok)
	}
}
