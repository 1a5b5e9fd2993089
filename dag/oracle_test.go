package dag_test

import (
	"fmt"
	"math/rand"
	"regexp"
	"slices"
	"strconv"
	"strings"
	"testing"

	"tiller/api"
	"tiller/dag"
)

// The chapter's words told once more, by other means: lines by regular expressions, definitions by rules that are gone through one by one.

const (
	aName   = `[A-Za-z0-9._-]{1,64}`
	aFlow   = `[A-Za-z0-9._/-]{1,256}`
	aNumber = `0|[1-9][0-9]{0,14}`
)

var (
	isName    = regexp.MustCompile(`\A(?:` + aName + `)\z`)
	isFlow    = regexp.MustCompile(`\A(?:` + aFlow + `)\z`)
	isSilent  = regexp.MustCompile(`(?s)\A *(?:#.*)?\z`)
	isHeading = regexp.MustCompile(`\A *workflow +(` + aName + `) *\z`)
	isNode    = regexp.MustCompile(`\A *(?P<name>` + aName + `) +(?:` +
		`activity +(?P<queue>` + aName + `)(?: +tries +(?P<tries>` + aNumber + `))?(?: +timeout +(?P<timeout>` + aNumber + `))?|` +
		`timer +(?P<delay>` + aNumber + `)|` +
		`child +(?P<definition>` + aName + `)|` +
		`wait +(?P<awaited>` + aName + `)|` +
		`send +(?P<flow>` + aFlow + `) +(?P<sent>` + aName + `)` +
		`)(?: +after(?P<after>(?: +` + aName + `)+))? *\z`)
)

// linesOf are a text's lines.
func linesOf(text string) []string {
	lines := strings.Split(text, "\n")
	if lines[len(lines)-1] == "" {
		return lines[:len(lines)-1]
	}
	return lines
}

// nodeOf is the node of a line.
func nodeOf(line string) (api.Node, bool) {
	found := isNode.FindStringSubmatch(line)
	if found == nil {
		return api.Node{}, false
	}
	part := func(name string) string { return found[isNode.SubexpIndex(name)] }
	number := func(name string, without int) int {
		if part(name) == "" {
			return without
		}
		n, err := strconv.Atoi(part(name))
		if err != nil {
			panic(err)
		}
		return n
	}
	n := api.Node{Name: part("name"), After: strings.Fields(part("after"))}
	switch {
	case part("queue") != "":
		n.Kind, n.Arg, n.Tries, n.Delay = api.Activity, part("queue"), number("tries", 1), number("timeout", 0)
	case part("delay") != "":
		n.Kind, n.Delay = api.Timer, number("delay", -1)
	case part("definition") != "":
		n.Kind, n.Arg = api.Child, part("definition")
	case part("awaited") != "":
		n.Kind, n.Arg = api.Wait, part("awaited")
	default:
		n.Kind, n.To, n.Arg = api.Send, part("flow"), part("sent")
	}
	return n, true
}

// parsed is what Parse must answer.
func parsed(text string) (api.Def, int, api.Errno) {
	if len(text) > 16384 {
		return api.Def{}, 0, api.ErrLarge
	}
	var d api.Def
	var lines []int
	all := linesOf(text)
	for i, line := range all {
		heading := isHeading.FindStringSubmatch(line)
		n, node := nodeOf(line)
		switch {
		case isSilent.MatchString(line):
		case d.Name == "" && heading != nil:
			d.Name = heading[1]
		case d.Name != "" && node:
			d.Nodes = append(d.Nodes, n)
			lines = append(lines, i+1)
		default:
			return api.Def{}, i + 1, api.ErrForm
		}
	}
	if d.Name == "" {
		return api.Def{}, len(all) + 1, api.ErrForm
	}
	node, e := checked(d)
	if e == api.OK {
		return d, 0, api.OK
	}
	if node < 0 {
		return api.Def{}, 0, e
	}
	return api.Def{}, lines[node], e
}

// rule is one of Check's refusals.
type rule struct {
	node    int
	e       api.Errno
	applies bool
}

// checked is what Check must answer.
func checked(d api.Def) (int, api.Errno) {
	for _, r := range rulesOf(d) {
		if r.applies {
			return r.node, r.e
		}
	}
	return -1, api.OK
}

// rulesOf are Check's refusals in the chapter's order.
func rulesOf(d api.Def) []rule {
	var names []string
	for _, n := range d.Nodes {
		names = append(names, n.Name)
	}
	rules := []rule{
		{-1, api.ErrName, !isName.MatchString(d.Name)},
		{-1, api.ErrMany, len(names) == 0},
		{-1, api.ErrMany, len(names) > 32},
	}
	for i, n := range d.Nodes {
		activity, timer, send := n.Kind == 1, n.Kind == 2, n.Kind == 5
		rules = append(rules,
			rule{i, api.ErrName, !isName.MatchString(n.Name)},
			rule{i, api.ErrName, !timer && !isName.MatchString(n.Arg)},
			rule{i, api.ErrName, send && !isFlow.MatchString(n.To)},
			rule{i, api.ErrTwice, slices.Contains(names[:i], n.Name)},
			rule{i, api.ErrArg, n.Kind < 1 || n.Kind > 5},
			rule{i, api.ErrArg, n.Delay < 0 || n.Delay > 1000000},
			rule{i, api.ErrArg, n.Delay > 0 && !activity && !timer},
			rule{i, api.ErrArg, activity && (n.Tries < 1 || n.Tries > 10)},
			rule{i, api.ErrArg, !activity && n.Tries != 0},
			rule{i, api.ErrArg, timer && n.Arg != ""},
			rule{i, api.ErrArg, !send && n.To != ""},
		)
	}
	for i, n := range d.Nodes {
		none, twice := false, false
		for at, name := range n.After {
			none = none || !slices.Contains(names, name)
			twice = twice || slices.Contains(n.After[:at], name)
		}
		rules = append(rules, rule{i, api.ErrNone, none}, rule{i, api.ErrTwice, twice})
	}
	return append(rules, rule{-1, api.ErrLoop, len(ordered(d)) < len(names)})
}

// meant is the node that a name in the After of the node i means, or -1.
func meant(d api.Def, i int, name string) int {
	if name == d.Nodes[i].Name {
		return -1
	}
	return slices.IndexFunc(d.Nodes, func(n api.Node) bool { return n.Name == name })
}

// ordered is what Order must tell: again and again it looks at all nodes from the first one on.
func ordered(d api.Def) []int {
	var told []int
	for {
		next := slices.IndexFunc(numbers(len(d.Nodes)), func(i int) bool {
			return !slices.Contains(told, i) && !slices.ContainsFunc(d.Nodes[i].After, func(name string) bool { return !slices.Contains(told, meant(d, i, name)) })
		})
		if next < 0 {
			return told
		}
		told = append(told, next)
	}
}

func numbers(n int) []int {
	var list []int
	for i := range n {
		list = append(list, i)
	}
	return list
}

// deep is what Depth must be: the rows are gone through from each node backwards.
func deep(d api.Def) int {
	told := ordered(d)
	known := map[int]int{}
	var row func(i int) int
	row = func(i int) int {
		if known[i] == 0 {
			longest := 0
			for _, name := range d.Nodes[i].After {
				longest = max(longest, row(meant(d, i, name)))
			}
			known[i] = longest + 1
		}
		return known[i]
	}
	longest := 0
	for _, i := range told {
		longest = max(longest, row(i))
	}
	return longest
}

// ready is what ReadyNodes must tell.
func ready(d api.Def, over, begun []bool) []int {
	of := func(l []bool, i int) bool { return i >= 0 && i < len(l) && l[i] }
	var list []int
	for i, n := range d.Nodes {
		if !of(begun, i) && !slices.ContainsFunc(n.After, func(name string) bool { return !of(over, meant(d, i, name)) }) {
			list = append(list, i)
		}
	}
	return list
}

// written is what Text must be.
func written(d api.Def) string {
	if _, e := checked(d); e != api.OK {
		return ""
	}
	text := fmt.Sprintf("workflow %s\n", d.Name)
	for _, n := range d.Nodes {
		switch n.Kind {
		case api.Activity:
			text += fmt.Sprintf("%s activity %s", n.Name, n.Arg)
		case api.Timer:
			text += fmt.Sprintf("%s timer %d", n.Name, n.Delay)
		case api.Child:
			text += fmt.Sprintf("%s child %s", n.Name, n.Arg)
		case api.Wait:
			text += fmt.Sprintf("%s wait %s", n.Name, n.Arg)
		case api.Send:
			text += fmt.Sprintf("%s send %s %s", n.Name, n.To, n.Arg)
		}
		if n.Kind == api.Activity && n.Tries != 1 {
			text += fmt.Sprintf(" tries %d", n.Tries)
		}
		if n.Kind == api.Activity && n.Delay != 0 {
			text += fmt.Sprintf(" timeout %d", n.Delay)
		}
		if len(n.After) > 0 {
			text += " after " + strings.Join(n.After, " ")
		}
		text += "\n"
	}
	return text
}

// same says whether two definitions are one; no list and an empty one are one.
func same(a, b api.Def) bool {
	return a.Name == b.Name && slices.EqualFunc(a.Nodes, b.Nodes, sameNode)
}

func sameNode(a, b api.Node) bool {
	rest := a.Name == b.Name && a.Kind == b.Kind && a.Arg == b.Arg && a.To == b.To && a.Delay == b.Delay && a.Tries == b.Tries
	return rest && slices.Equal(a.After, b.After)
}

// copyOf shares no memory with d.
func copyOf(d api.Def) api.Def {
	nodes := slices.Clone(d.Nodes)
	for i := range nodes {
		nodes[i].After = slices.Clone(nodes[i].After)
	}
	return api.Def{Name: d.Name, Nodes: nodes}
}

// Definitions and texts by chance.

func pick[T any](r *rand.Rand, list ...T) T { return list[r.Intn(len(list))] }

// someNames are right names, words of lines among them.
func someNames() []string {
	return []string{"a", "b", "c", "d", "e", "after", "tries", "timeout", "activity", "timer", "child", "wait", "send", "workflow", "0", "007", ".", "-", "_", "A-z_0.9", strings.Repeat("n", 64), "n1", "n2", "n3", "n4", "n5", "n6", "n7", "n8", "n9", "n10", "n11", "n12", "n13"}
}

// rightNode is a node that Check takes if its After may stand there.
func rightNode(r *rand.Rand, name string, after []string) api.Node {
	n := api.Node{Name: name, Kind: 1 + r.Intn(5), Arg: pick(r, someNames()...), After: after}
	switch n.Kind {
	case api.Activity:
		n.Tries = pick(r, 1, 1, 2, 9, 10)
		n.Delay = pick(r, 0, 0, 1, 10, 999999, 1000000)
	case api.Timer:
		n.Arg = ""
		n.Delay = pick(r, 0, 1, 5, 1000000)
	case api.Send:
		n.To = pick(r, "a", "x/y", "/", "//a", strings.Repeat("f/", 128), pick(r, someNames()...))
	}
	return n
}

// rightDef is a definition that Check takes, its nodes in any order.
func rightDef(r *rand.Rand) api.Def {
	names := someNames()
	r.Shuffle(len(names), func(i, j int) { names[i], names[j] = names[j], names[i] })
	names = names[:1+r.Intn(api.MaxNodes)]
	if r.Intn(3) > 0 {
		names = names[:1+r.Intn(min(len(names), 6))]
	}
	often := r.Float64()
	d := api.Def{Name: pick(r, someNames()...)}
	for i, name := range names {
		var after []string
		for _, other := range names[:i] {
			if r.Float64() < often {
				after = append(after, other)
			}
		}
		r.Shuffle(len(after), func(i, j int) { after[i], after[j] = after[j], after[i] })
		d.Nodes = append(d.Nodes, rightNode(r, name, after))
	}
	r.Shuffle(len(d.Nodes), func(i, j int) { d.Nodes[i], d.Nodes[j] = d.Nodes[j], d.Nodes[i] })
	return d
}

// strangeDef is a definition that may be wrong in many ways.
func strangeDef(r *rand.Rand) api.Def {
	d := rightDef(r)
	if r.Intn(8) == 0 {
		d.Name = pick(r, "", "a/b", "a b", strings.Repeat("n", 65))
	}
	if r.Intn(20) == 0 {
		d.Nodes = nil
	}
	if r.Intn(20) == 0 {
		for i := range 33 {
			d.Nodes = append(d.Nodes, rightNode(r, fmt.Sprint("m", i), nil))
		}
	}
	for range r.Intn(4) {
		if len(d.Nodes) > 0 {
			spoil(r, &d, r.Intn(len(d.Nodes)))
		}
	}
	return d
}

// spoil changes one thing of a node.
func spoil(r *rand.Rand, d *api.Def, i int) {
	n := &d.Nodes[i]
	other := d.Nodes[r.Intn(len(d.Nodes))].Name
	switch r.Intn(8) {
	case 0:
		n.Name = pick(r, "", "x/y", "x y", "\x00", strings.Repeat("n", 65), other, "zz")
	case 1:
		n.Kind = pick(r, -1, 0, 1, 2, 3, 4, 5, 6, 1<<40)
	case 2:
		n.Arg = pick(r, "", "q", "q/r", "q r", strings.Repeat("q", 65))
	case 3:
		n.To = pick(r, "", "x", "x y", strings.Repeat("x", 257))
	case 4:
		n.Delay = pick(r, -1<<63, -1, 0, 1, 1000000, 1000001, 1<<62)
	case 5:
		n.Tries = pick(r, -1<<63, -1, 0, 1, 10, 11, 1<<62)
	default:
		n.After = slices.Insert(slices.Clone(n.After), r.Intn(len(n.After)+1), pick(r, other, other, other, n.Name, "nobody", ""))
	}
}

// roughText writes d with blanks, remarks and line ends where they may stand.
func roughText(r *rand.Rand, d api.Def) string {
	var text strings.Builder
	for _, line := range linesOf(written(d)) {
		for r.Intn(4) == 0 {
			text.WriteString(pick(r, "\n", "   \n", "# a remark\n", "  ## workflow x\n", "#\n", "#\xff\x00\t\n", " #a activity q\n"))
		}
		text.WriteString(pick(r, "", "", " ", "    "))
		text.WriteString(strings.Join(strings.Split(line, " "), pick(r, " ", " ", "  ", "     ")))
		text.WriteString(pick(r, "", "", " ", "   ") + "\n")
	}
	if r.Intn(2) == 0 {
		return strings.TrimSuffix(text.String(), "\n")
	}
	return text.String()
}

// brokenText changes some words or bytes of a text.
func brokenText(r *rand.Rand, text string) string {
	lines := strings.Split(text, "\n")
	for range r.Intn(3) {
		at := r.Intn(len(lines))
		words := strings.Split(lines[at], " ")
		spot := r.Intn(len(words))
		word := pick(r, "after", "tries", "timeout", "activity", "timer", "child", "wait", "send", "workflow", "a", "b", "0", "05", "5", "11", "999999999999999", "1000000000000000", "1000001", "-1", "+1", "x/y", "#", "a#", "a\tb", "a\r", "\xff", "é", strings.Repeat("n", 65), strings.Repeat("n", 257), "")
		if n := slices.IndexFunc(words, func(w string) bool { return w == "tries" || w == "timeout" || w == "timer" }); n >= 0 && n+1 < len(words) && r.Intn(3) == 0 {
			spot, word = n+1, pick(r, "0", "11", "1000001", "999999999999999", "05", "1000000000000000")
		}
		switch r.Intn(5) {
		case 0:
			words[spot] = word
		case 1:
			words = slices.Insert(words, spot, word)
		case 2:
			words = append(words, word)
		case 3:
			words = slices.Delete(words, spot, spot+1)
		case 4:
			lines = slices.Insert(lines, r.Intn(len(lines)+1), lines[at])
			continue
		}
		lines[at] = strings.Join(words, " ")
	}
	text = strings.Join(lines, "\n")
	if len(text) > 0 && r.Intn(4) == 0 {
		at := r.Intn(len(text))
		text = text[:at] + pick(r, "", " ", "\n", "\t", "#", "\x00", "/") + text[at+1:]
	}
	return text
}

// TestOracle holds the oracle itself to what the chapter's runs say.
func TestOracle(t *testing.T) {
	for _, x := range runs() {
		d, line, e := parsed(x.text)
		if line != x.line || e != x.e || !same(d, x.d) {
			t.Fatalf("%q: %+v, line %d, error %d", x.text, d, line, e)
		}
	}
	for c := range 256 {
		s := string([]byte{byte(c)})
		if isName.MatchString(s) != strings.Contains(nameBytes, s) || isFlow.MatchString(s) != strings.Contains(nameBytes+"/", s) {
			t.Fatalf("%q", s)
		}
	}
}

// Whatever the text, Parse answers what the chapter says; what it reads Check takes (P8.1, P8.5).
func TestParseOfManyTexts(t *testing.T) {
	r := rand.New(rand.NewSource(81))
	count := map[api.Errno]int{}
	for range 12000 {
		text := brokenText(r, roughText(r, rightDef(r)))
		want, wantLine, wantE := parsed(text)
		d, line, e := dag.Parse(text)
		if line != wantLine || e != wantE || !same(d, want) {
			t.Fatalf("%q: %+v, line %d, error %d, want %+v, line %d, error %d", text, d, line, e, want, wantLine, wantE)
		}
		if node, e := dag.Check(d); (e == api.OK) != (wantE == api.OK) || e == api.OK && node != -1 {
			t.Fatalf("%q: Check of what was read: %d, %d", text, node, e)
		}
		count[e]++
	}
	for _, e := range []api.Errno{api.OK, api.ErrForm, api.ErrArg, api.ErrTwice, api.ErrNone, api.ErrLoop, api.ErrMany} {
		if count[e] < 10 {
			t.Errorf("the texts came to error %d only %d times: %v", e, count[e], count)
		}
	}
}

// Whatever the definition, all calls answer what the chapter says (P8.2, P8.3, P8.4).
func TestManyDefinitions(t *testing.T) {
	r := rand.New(rand.NewSource(82))
	count := map[api.Errno]int{}
	for range 20000 {
		d := strangeDef(r)
		was := copyOf(d)
		wantNode, wantE := checked(d)
		if node, e := dag.Check(d); node != wantNode || e != wantE {
			t.Fatalf("%+v: Check is %d, %d, want %d, %d", d, node, e, wantNode, wantE)
		}
		if text := dag.Text(d); text != written(d) {
			t.Fatalf("%+v: Text is %q, want %q", d, text, written(d))
		}
		holdOrder(t, d)
		holdReady(t, d, marks(r, len(d.Nodes)), marks(r, len(d.Nodes)))
		if !same(d, was) {
			t.Fatalf("%+v was changed to %+v", was, d)
		}
		count[wantE]++
	}
	for _, e := range []api.Errno{api.OK, api.ErrName, api.ErrArg, api.ErrTwice, api.ErrNone, api.ErrLoop, api.ErrMany} {
		if count[e] < 10 {
			t.Errorf("the definitions came to error %d only %d times: %v", e, count[e], count)
		}
	}
}

// marks are as many as there are nodes, or some more or fewer.
func marks(r *rand.Rand, nodes int) []bool {
	var list []bool
	for range max(0, nodes+pick(r, 0, 0, -1, 1, -nodes, 5)) {
		list = append(list, r.Intn(3) > 0)
	}
	return list
}

// holdOrder holds Order, Depth, Walk and Find of d to what the chapter says.
func holdOrder(t *testing.T, d api.Def) {
	t.Helper()
	want := ordered(d)
	order, all := dag.Order(d)
	if !slices.Equal(order, want) || all != (len(want) == len(d.Nodes)) {
		t.Fatalf("%+v: Order is %v, %v, want %v", d, order, all, want)
	}
	if depth := dag.Depth(d); depth != deep(d) {
		t.Fatalf("%+v: Depth is %d, want %d", d, depth, deep(d))
	}
	var walked []int
	for i, n := range dag.Walk(d) {
		if !sameNode(n, d.Nodes[i]) {
			t.Fatalf("%+v: Walk tells %d as %+v", d, i, n)
		}
		walked = append(walked, i)
	}
	if !slices.Equal(walked, want) {
		t.Fatalf("%+v: Walk tells %v, want %v", d, walked, want)
	}
	for i, n := range d.Nodes {
		first := slices.IndexFunc(d.Nodes, func(m api.Node) bool { return m.Name == n.Name })
		if found, ok := dag.Find(d, n.Name); found != first || !ok {
			t.Fatalf("%+v: Find of the name of %d is %d, %v", d, i, found, ok)
		}
	}
}

func holdReady(t *testing.T, d api.Def, over, begun []bool) {
	t.Helper()
	if got, want := dag.ReadyNodes(d, over, begun), ready(d, over, begun); !slices.Equal(got, want) {
		t.Fatalf("%+v: ReadyNodes(%v, %v) is %v, want %v", d, over, begun, got, want)
	}
}
