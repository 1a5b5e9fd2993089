package dag_test

import (
	"fmt"
	"math/rand"
	"strings"
	"testing"

	"tiller/api"
	"tiller/dag"
)

// run is a text and what Parse makes of it.
type run struct {
	text string
	d    api.Def
	line int
	e    api.Errno
}

func lines(l ...string) string { return strings.Join(l, "\n") }

func activity(name, queue string, after ...string) api.Node {
	return api.Node{Name: name, Kind: api.Activity, Arg: queue, Tries: 1, After: after}
}

func timer(name string, delay int, after ...string) api.Node {
	return api.Node{Name: name, Kind: api.Timer, Delay: delay, After: after}
}

func wait(name, signal string, after ...string) api.Node {
	return api.Node{Name: name, Kind: api.Wait, Arg: signal, After: after}
}

func child(name, definition string, after ...string) api.Node {
	return api.Node{Name: name, Kind: api.Child, Arg: definition, After: after}
}

func send(name, flow, signal string, after ...string) api.Node {
	return api.Node{Name: name, Kind: api.Send, To: flow, Arg: signal, After: after}
}

func def(nodes ...api.Node) api.Def { return api.Def{Name: "w", Nodes: nodes} }

// runs are those of the chapter's table.
func runs() []run {
	return []run{
		{text: lines("workflow w", "a activity q", "b timer 5 after a"), d: def(activity("a", "q"), timer("b", 5, "a"))},
		{text: lines("workflow w", "a activity q after b", "b wait s after a"), e: api.ErrLoop},
		{text: lines("workflow w", "a activity q", "a wait s"), line: 3, e: api.ErrTwice},
		{text: "a activity q", line: 1, e: api.ErrForm},
		{text: "", line: 1, e: api.ErrForm},
		{text: "workflow w", e: api.ErrMany},
		{text: lines("workflow w", "a activity q tries 0"), line: 2, e: api.ErrArg},
		{text: lines("workflow w", "a activity q tries 11"), line: 2, e: api.ErrArg},
		{text: lines("workflow w", "a activity q timeout 05"), line: 2, e: api.ErrForm},
		{text: lines("workflow w", "a send x/y s"), d: def(send("a", "x/y", "s"))},
	}
}

// holdParse holds Parse of a text to an answer.
func holdParse(t *testing.T, x run) {
	t.Helper()
	d, line, e := dag.Parse(x.text)
	if line != x.line || e != x.e || !same(d, x.d) {
		t.Fatalf("Parse of %q is %+v, line %d, error %d, want %+v, line %d, error %d", x.text, d, line, e, x.d, x.line, x.e)
	}
}

func reads(t *testing.T, text string, nodes ...api.Node) {
	t.Helper()
	holdParse(t, run{text: text, d: def(nodes...)})
}

func refuses(t *testing.T, text string, line int, e api.Errno) {
	t.Helper()
	holdParse(t, run{text: text, line: line, e: e})
}

// P8.1: lines

func TestRuns(t *testing.T) {
	for _, x := range runs() {
		holdParse(t, x)
	}
	first, _, _ := dag.Parse(runs()[0].text)
	if order, ok := dag.Order(first); fmt.Sprint(order) != "[0 1]" || !ok {
		t.Fatal(order, ok)
	}
	if got := dag.ReadyNodes(first, []bool{true}, []bool{true}); fmt.Sprint(got) != "[1]" {
		t.Fatal(got)
	}
}

func TestTextOfTheGreatestLength(t *testing.T) {
	for _, begin := range []string{"workflow w\na wait s\n#", "workflow w\na wait s", "workflow w\na wait s\n"} {
		for _, fill := range []string{" ", "\n"} {
			text := begin + strings.Repeat(fill, 16384-len(begin))
			reads(t, text, wait("a", "s"))
			refuses(t, text+fill, 0, api.ErrLarge)
			refuses(t, text+text, 0, api.ErrLarge)
		}
	}
}

// A text that is too long is so ahead of all that is wrong in it.
func TestLargeComesFirst(t *testing.T) {
	for _, begin := range []string{"", "x", "workflow w\na", "workflow w\na wait s after b"} {
		refuses(t, begin+strings.Repeat("\n", 16385-len(begin)), 0, api.ErrLarge)
	}
	refuses(t, strings.Repeat("\n", 16384), 16385, api.ErrForm)
	refuses(t, strings.Repeat("\xff", 16384), 1, api.ErrForm)
}

func TestTextWithoutAWorkflowLine(t *testing.T) {
	for text, line := range map[string]int{
		"": 1, "\n": 2, "\n\n": 3, " ": 2, " \n": 2, " \n ": 3, "#": 2, "#\n": 2, "# workflow w": 2, "#\n#": 3, "# x\n\n#": 4, "   #\n   \n\n": 4,
	} {
		refuses(t, text, line, api.ErrForm)
	}
}

func TestFirstLineThatSaysSomethingIsTheWorkflow(t *testing.T) {
	for _, begin := range []string{"", "\n", "#\n", "# a activity q\n", "   \n\n  # x\n#workflow v\n"} {
		at := strings.Count(begin, "\n") + 1
		reads(t, begin+"workflow w\na wait s", wait("a", "s"))
		refuses(t, begin+"a wait s\nworkflow w", at, api.ErrForm)
		for _, line := range []string{
			"workflow", "workflow w v", "workflow w #", "workflow a/b", "workflow " + strings.Repeat("n", 65), "workflow\tw", "workflow w\r", "workflow w\t", "\tworkflow w", "Workflow w", "workflows w", "w workflow", "w", "workflow \xff", "workflow w\x00", "workfloww", "workflow #", "\xef\xbb\xbfworkflow w",
		} {
			refuses(t, begin+line+"\na wait s\n", at, api.ErrForm)
		}
	}
	holdParse(t, run{text: "workflow " + strings.Repeat("n", 64) + "\na wait s", d: api.Def{Name: strings.Repeat("n", 64), Nodes: []api.Node{wait("a", "s")}}})
	holdParse(t, run{text: "workflow workflow\na wait s", d: api.Def{Name: "workflow", Nodes: []api.Node{wait("a", "s")}}})
}

// Only the first line that says something is the workflow's: further ones are nodes.
func TestSecondWorkflowLineIsANode(t *testing.T) {
	refuses(t, "workflow w\nworkflow v", 2, api.ErrForm)
	refuses(t, "workflow w\n\na wait s\nworkflow w\n", 4, api.ErrForm)
	reads(t, "workflow w\nworkflow wait s", wait("workflow", "s"))
}

func TestLinesThatSayNothing(t *testing.T) {
	for _, between := range []string{"", "\n", "   \n", "#\n", "    #\n", "#a activity q\n", "# \xff\x00\t\r\n", "##\n\n  \n# #\n"} {
		reads(t, between+"workflow w\n"+between+"a wait s\n"+between+"b wait s\n"+between, wait("a", "s"), wait("b", "s"))
		refuses(t, between+"workflow w\n"+between+"a wait s\n"+between+"b wait\n"+between, 3*strings.Count(between, "\n")+3, api.ErrForm)
		refuses(t, between+"workflow w\n"+between+"a wait s\n"+between+"a wait s\n"+between, 3*strings.Count(between, "\n")+3, api.ErrTwice)
		refuses(t, between+"workflow w\n"+between, 0, api.ErrMany)
	}
	// A # that is not at the beginning of the first word makes no remark.
	for _, line := range []string{"a wait s #", "a wait s # after b", "a# wait s", "a wait #s", "a #wait s", "\t# x", "\r", "\t"} {
		refuses(t, "workflow w\n"+line, 2, api.ErrForm)
	}
}

func TestLastLineWithAndWithoutItsEnd(t *testing.T) {
	reads(t, "workflow w\na wait s", wait("a", "s"))
	reads(t, "workflow w\na wait s\n", wait("a", "s"))
	reads(t, "workflow w\na wait s\n\n", wait("a", "s"))
	reads(t, "workflow w\na wait s\n ", wait("a", "s"))
	refuses(t, "workflow w\na wait s\nb", 3, api.ErrForm)
	refuses(t, "workflow w\na wait s\nb\n", 3, api.ErrForm)
	refuses(t, "workflow w\r\na wait s\r\n", 1, api.ErrForm)
	refuses(t, "workflow w\na wait s\r\n", 2, api.ErrForm)
}

func TestBlanksAroundWords(t *testing.T) {
	for _, blanks := range []string{" ", "  ", strings.Repeat(" ", 50)} {
		text := "workflow w\na wait s\nb activity q tries 2 timeout 3 after a\nc send x/y s after a b\nd timer 5\n"
		want := []api.Node{wait("a", "s"), {Name: "b", Kind: api.Activity, Arg: "q", Tries: 2, Delay: 3, After: []string{"a"}}, send("c", "x/y", "s", "a", "b"), timer("d", 5)}
		reads(t, strings.ReplaceAll(text, " ", blanks), want...)
		reads(t, blanks+strings.ReplaceAll(text, "\n", blanks+"\n"+blanks), want...)
	}
	for _, other := range []string{"\t", "\r", "\v", "\f", "\x00", "\u00a0", "\u2003", "\x85"} {
		refuses(t, "workflow w\na"+other+"wait s", 2, api.ErrForm)
		refuses(t, "workflow w\na wait"+other+"s", 2, api.ErrForm)
		refuses(t, "workflow w\na wait s"+other, 2, api.ErrForm)
		refuses(t, "workflow w\n"+other+"a wait s", 2, api.ErrForm)
		refuses(t, "workflow w\n"+other, 2, api.ErrForm)
	}
}

// P8.1: nodes

// The first n words of a right line are right for those n alone that are said.
func TestEachKindWithFewerAndMoreWords(t *testing.T) {
	for line, right := range map[string]map[int]api.Node{
		"a activity q tries 2 timeout 3 after b c": {
			3: {Name: "a", Kind: api.Activity, Arg: "q", Tries: 1},
			5: {Name: "a", Kind: api.Activity, Arg: "q", Tries: 2},
			7: {Name: "a", Kind: api.Activity, Arg: "q", Tries: 2, Delay: 3},
			9: {Name: "a", Kind: api.Activity, Arg: "q", Tries: 2, Delay: 3, After: []string{"b"}}, 10: {Name: "a", Kind: api.Activity, Arg: "q", Tries: 2, Delay: 3, After: []string{"b", "c"}},
		},
		"a activity q timeout 3 after c b": {3: activity("a", "q"), 5: {Name: "a", Kind: api.Activity, Arg: "q", Tries: 1, Delay: 3}, 7: {Name: "a", Kind: api.Activity, Arg: "q", Tries: 1, Delay: 3, After: []string{"c"}}, 8: {Name: "a", Kind: api.Activity, Arg: "q", Tries: 1, Delay: 3, After: []string{"c", "b"}}},
		"a activity q tries 10 after b":    {3: activity("a", "q"), 5: {Name: "a", Kind: api.Activity, Arg: "q", Tries: 10}, 7: {Name: "a", Kind: api.Activity, Arg: "q", Tries: 10, After: []string{"b"}}},
		"a timer 5 after b c":              {3: timer("a", 5), 5: timer("a", 5, "b"), 6: timer("a", 5, "b", "c")},
		"a child v after b c":              {3: child("a", "v"), 5: child("a", "v", "b"), 6: child("a", "v", "b", "c")},
		"a wait s after b c":               {3: wait("a", "s"), 5: wait("a", "s", "b"), 6: wait("a", "s", "b", "c")},
		"a send f/g s after b c":           {4: send("a", "f/g", "s"), 6: send("a", "f/g", "s", "b"), 7: send("a", "f/g", "s", "b", "c")},
	} {
		words := strings.Split(line, " ")
		for n := 1; n <= len(words); n++ {
			text := "workflow w\nb wait s\nc wait s\n" + strings.Join(words[:n], " ")
			if node, ok := right[n]; ok {
				reads(t, text, wait("b", "s"), wait("c", "s"), node)
			} else {
				refuses(t, text, 4, api.ErrForm)
			}
		}
	}
	for _, line := range []string{
		"a activity q r", "a timer 5 6", "a child v u", "a wait s t", "a send f s t", "a activity q tries 2 3", "a activity q timeout 2 3", "a activity q tries 2 timeout 3 4",
		"a Activity q", "a ACTIVITY q", "a q activity", "activity a q", "a activit q", "a sleep 5", "a 1 q", "a after b", "a tries 2",
	} {
		refuses(t, "workflow w\nb wait s\n"+line+"\nc wait s", 3, api.ErrForm)
	}
}

func TestTriesAndTimeoutHaveOneOrder(t *testing.T) {
	for _, line := range []string{
		"a activity q timeout 5 tries 2", "a activity q tries 2 tries 2", "a activity q timeout 2 timeout 2", "a activity q tries timeout 5", "a activity q timeout tries 5", "a activity q tries 2 timeout 5 tries 2",
		"a activity q after b tries 2 x/", "a activity tries 2", "a activity timeout 2",
	} {
		refuses(t, "workflow w\nb wait s\n"+line, 3, api.ErrForm)
	}
	for _, line := range []string{"a timer 5", "a child v", "a wait s", "a send f s"} {
		for _, more := range []string{" tries 2", " timeout 3", " tries 1", " timeout 0", " tries 2 timeout 3", " tries 2 after b"} {
			refuses(t, "workflow w\nb wait s\n"+line+more, 3, api.ErrForm)
		}
	}
}

// Words of the form are names wherever a name must stand.
func TestWordsOfTheFormAsNames(t *testing.T) {
	for _, name := range []string{"after", "tries", "timeout", "activity", "timer", "child", "wait", "send", "workflow", "5", "007"} {
		holdParse(t, run{text: fmt.Sprintf("workflow %s\n%s activity %s", name, name, name), d: api.Def{Name: name, Nodes: []api.Node{activity(name, name)}}})
		reads(t, fmt.Sprintf("workflow w\n%s child %s\nb wait %s after %s", name, name, name, name), child(name, name), wait("b", name, name))
		reads(t, fmt.Sprintf("workflow w\n%s send %s %s\nb activity %s after %s", name, name, name, name, name), send(name, name, name), activity("b", name, name))
	}
	reads(t, "workflow w\nafter activity q\ntries wait s\n3 wait s\nb activity q after tries 3 after", activity("after", "q"), wait("tries", "s"), wait("3", "s"), activity("b", "q", "tries", "3", "after"))
	reads(t, "workflow w\nafter activity after tries 2 timeout 4\nb wait after after after", api.Node{Name: "after", Kind: api.Activity, Arg: "after", Tries: 2, Delay: 4}, wait("b", "after", "after"))
	reads(t, "workflow w\ng activity tries tries 2", api.Node{Name: "g", Kind: api.Activity, Arg: "tries", Tries: 2})
	reads(t, "workflow w\ng activity timeout timeout 2", api.Node{Name: "g", Kind: api.Activity, Arg: "timeout", Tries: 1, Delay: 2})
	refuses(t, "workflow w\na activity after b", 2, api.ErrForm)
	refuses(t, "workflow w\na wait after after", 2, api.ErrForm)
}

func TestAfterWithoutAName(t *testing.T) {
	for _, line := range []string{"a activity q", "a activity q tries 2", "a activity q timeout 2", "a timer 5", "a child v", "a wait s", "a send f s"} {
		for _, more := range []string{" after", " after ", " after b/c", " after b b/c", " after #", " After b", " after b,c", " after " + strings.Repeat("n", 65), " b", " after\tb"} {
			refuses(t, "workflow w\nb wait s\n"+line+more, 3, api.ErrForm)
		}
	}
}

// Every name and every flow of a line counts, in its length and in each byte.
func TestNamesAndFlowsOfLines(t *testing.T) {
	for place, most := range map[string]int{
		"workflow %s\na wait s": 64, "workflow w\n%s activity q": 64, "workflow w\n%s timer 5": 64, "workflow w\n%s child v": 64, "workflow w\n%s wait s": 64, "workflow w\n%s send f s": 64,
		"workflow w\na activity %s": 64, "workflow w\na child %s": 64, "workflow w\na wait %s": 64, "workflow w\na send f %s": 64, "workflow w\na send %s s": 256,
	} {
		line := 1
		if strings.HasPrefix(place, "workflow w") {
			line = 2
		}
		for _, n := range []int{1, 2, 64, 65, 255, 256, 257} {
			text := fmt.Sprintf(place, strings.Repeat("x", n))
			d, got, e := dag.Parse(text)
			if right := n <= most; right != (e == api.OK) || right && (got != 0 || !strings.Contains(fmt.Sprint(d), strings.Repeat("x", n))) || !right && (got != line || e != api.ErrForm) {
				t.Fatalf("%q: %+v, line %d, error %d", text, d, got, e)
			}
		}
		for c := range 256 {
			if c == ' ' || c == '\n' {
				continue
			}
			text := fmt.Sprintf(place, "x"+string([]byte{byte(c)})+"x")
			right := strings.IndexByte(nameBytes, byte(c)) >= 0 || c == '/' && most == 256
			if d, got, e := dag.Parse(text); right != (e == api.OK) || right && got != 0 || !right && (got != line || e != api.ErrForm || !same(d, api.Def{})) {
				t.Fatalf("%q: %+v, line %d, error %d", text, d, got, e)
			}
		}
	}
	refuses(t, "workflow w\n"+strings.Repeat("x", 64)+" wait s\nb wait s after "+strings.Repeat("x", 65), 3, api.ErrForm)
	reads(t, "workflow w\n"+strings.Repeat("x", 64)+" wait s\nb wait s after "+strings.Repeat("x", 64), wait(strings.Repeat("x", 64), "s"), wait("b", "s", strings.Repeat("x", 64)))
}

// A number that is in its form, but too great, is Check's; one that is not in its form is the line's.
func TestNumbersOfLines(t *testing.T) {
	wrong := []string{"00", "05", "01", "-1", "-0", "+1", "+0", "1.0", "1e3", "0x1", "1_0", "1,0", "a", "5a", "a5", "٣", "５", "1000000000000000", "9999999999999999", "0000000000000000", "000000000000001", "18446744073709551617", strings.Repeat("1", 500), "/", ":", "1/", "1:", "\xff"}
	for _, place := range []string{"a timer %s", "a activity q tries %s", "a activity q timeout %s", "a activity q tries %s timeout 5", "a activity q tries 2 timeout %s"} {
		text := "workflow w\nb wait s\n" + place + " after b"
		for _, number := range wrong {
			refuses(t, fmt.Sprintf(text, number), 3, api.ErrForm)
		}
		for _, number := range []string{"1000001", "999999999999999", "123456789012345", "100000000000000"} {
			refuses(t, fmt.Sprintf(text, number), 3, api.ErrArg)
		}
		refuses(t, fmt.Sprintf(text, ""), 3, api.ErrForm)
	}
	for _, n := range []int{0, 1, 9, 10, 12, 90, 100, 123456, 999999, 1000000} {
		reads(t, fmt.Sprintf("workflow w\na timer %d", n), timer("a", n))
		reads(t, fmt.Sprintf("workflow w\na activity q timeout %d", n), api.Node{Name: "a", Kind: api.Activity, Arg: "q", Tries: 1, Delay: n})
	}
	for n := range 12 {
		text := fmt.Sprintf("workflow w\na activity q tries %d", n)
		if n < 1 || n > 10 {
			refuses(t, text, 2, api.ErrArg)
		} else {
			reads(t, text, api.Node{Name: "a", Kind: api.Activity, Arg: "q", Tries: n})
		}
	}
}

// P8.1: what is refused first

func TestFormOfAllLinesComesFirst(t *testing.T) {
	refuses(t, "workflow w\na activity q tries 0\nb wait", 3, api.ErrForm)
	refuses(t, "workflow w\na wait s after a\nb wait s\nb wait s\n\nc", 6, api.ErrForm)
	refuses(t, "workflow w\na wait\nb wait", 2, api.ErrForm)
	refuses(t, "workflow w x\na wait", 1, api.ErrForm)
	refuses(t, "workflow w\n"+strings.Repeat("a wait s\n", 40)+"b", 42, api.ErrForm)
	refuses(t, "workflow w\n"+strings.Repeat("a wait s\n", 40), 0, api.ErrMany)
	refuses(t, "workflow w\n"+strings.Repeat("a wait s\n", 1800), 0, api.ErrMany)
}

func TestLineOfTheNodeThatIsRefused(t *testing.T) {
	refuses(t, "workflow w\na activity q\n# x\na wait s", 4, api.ErrTwice)
	refuses(t, "# x\n\nworkflow w\n\n\na activity q tries 0\n", 6, api.ErrArg)
	refuses(t, "workflow w\nb wait s\n#\na timer 1000001", 4, api.ErrArg)
	refuses(t, "workflow w\nb wait s\n\n\nc activity q timeout 1000001", 5, api.ErrArg)
	refuses(t, "workflow w\n\nb wait s after a\n", 3, api.ErrNone)
	refuses(t, "workflow w\nb wait s\n\n#\n\nc wait s after b b", 6, api.ErrTwice)
	refuses(t, "workflow w\n\na wait s after a\n", 0, api.ErrLoop)
	refuses(t, "workflow w\na wait s after x\n#\nb activity q tries 0", 4, api.ErrArg)
	refuses(t, "workflow w\na wait s after x\n#\na wait s", 4, api.ErrTwice)
	refuses(t, "workflow w\na wait s after x x\n#\nb wait s after a a", 2, api.ErrNone)
	refuses(t, "workflow w\na wait s after a a\n#\nb wait s after x", 2, api.ErrTwice)
	refuses(t, "workflow w\na wait s after b\nb wait s after a\n#\nc wait s after x", 5, api.ErrNone)
}

func TestHowManyNodes(t *testing.T) {
	text := "workflow w\n"
	var nodes []api.Node
	for i := range 40 {
		switch {
		case i < 1 || i > 32:
			refuses(t, text, 0, api.ErrMany)
		default:
			reads(t, text, nodes...)
		}
		nodes = append(nodes, wait(fmt.Sprint("n", i), "s"))
		text += fmt.Sprintf("n%d wait s\n", i)
	}
}

// P8.4

func TestTextOfEachKind(t *testing.T) {
	for _, x := range []struct {
		n    api.Node
		line string
	}{
		{activity("a", "q"), "a activity q"},
		{api.Node{Name: "a", Kind: api.Activity, Arg: "q", Tries: 2}, "a activity q tries 2"},
		{api.Node{Name: "a", Kind: api.Activity, Arg: "q", Tries: 10}, "a activity q tries 10"},
		{api.Node{Name: "a", Kind: api.Activity, Arg: "q", Tries: 1, Delay: 1}, "a activity q timeout 1"},
		{api.Node{Name: "a", Kind: api.Activity, Arg: "q", Tries: 3, Delay: 1000000}, "a activity q tries 3 timeout 1000000"},
		{api.Node{Name: "a", Kind: api.Activity, Arg: "q", Tries: 3, Delay: 20, After: []string{"b"}}, "a activity q tries 3 timeout 20 after b"},
		{activity("a", "q", "c", "b"), "a activity q after c b"},
		{timer("a", 0), "a timer 0"}, {timer("a", 5, "b"), "a timer 5 after b"},
		{child("a", "v"), "a child v"}, {child("a", "v", "b", "c"), "a child v after b c"},
		{wait("a", "s"), "a wait s"}, {wait("a", "s", "c"), "a wait s after c"},
		{send("a", "x/y", "s"), "a send x/y s"}, {send("a", "/", "s", "c", "b"), "a send / s after c b"},
	} {
		want := "workflow w\n" + x.line + "\nb wait s\nc timer 1\n"
		if text := dag.Text(def(x.n, wait("b", "s"), timer("c", 1))); text != want {
			t.Fatalf("Text is %q, want %q", text, want)
		}
	}
}

// What is read is written with one blank between its words, and without what says nothing.
func TestTextOfWhatWasRead(t *testing.T) {
	for text, want := range map[string]string{
		"workflow w\na  activity   q":                                        "workflow w\na activity q\n",
		"#\n  workflow   w  \n\n # x\n a activity q tries 1 timeout 0  ":     "workflow w\na activity q\n",
		"workflow w\nb wait s after  a\n\na timer 0\n":                       "workflow w\nb wait s after a\na timer 0\n",
		"workflow w\n a   send  x/y  s\nb activity q tries  2   after    a ": "workflow w\na send x/y s\nb activity q tries 2 after a\n",
	} {
		d, line, e := dag.Parse(text)
		if got := dag.Text(d); line != 0 || e != api.OK || got != want {
			t.Fatalf("Text of what %q is: %q, want %q", text, got, want)
		}
	}
}

func TestTextOfWhatCheckRefuses(t *testing.T) {
	if text := dag.Text(api.Def{}); text != "" {
		t.Fatalf("%q", text)
	}
	for _, x := range faults() {
		d := base()
		x.lay(&d)
		if text := dag.Text(d); text != "" {
			t.Fatalf("%s: Text is %q", x.what, text)
		}
	}
}

// P8.5

func TestWhatIsWrittenIsRead(t *testing.T) {
	r := rand.New(rand.NewSource(85))
	large := 0
	for range 4000 {
		d := rightDef(r)
		if node, e := dag.Check(d); node != -1 || e != api.OK {
			t.Fatalf("Check of %+v is %d, %d", d, node, e)
		}
		text := dag.Text(d)
		if len(text) > 16384 {
			large++
			refuses(t, text, 0, api.ErrLarge)
			continue
		}
		holdParse(t, run{text: text, d: d})
		holdParse(t, run{text: strings.TrimSuffix(text, "\n"), d: d})
		holdParse(t, run{text: roughText(r, d), d: d})
	}
	if large > 100 {
		t.Fatalf("%d texts were too large", large)
	}
}

// crowd is a definition of 32 nodes with long names, each behind all others ahead of it, its last node's signal as long as it is said.
func crowd(signal int) api.Def {
	var d api.Def
	var names []string
	d.Name = "w"
	for i := range 32 {
		name := fmt.Sprintf("%032d", i)
		d.Nodes = append(d.Nodes, wait(name, "s", names...))
		names = append(names, name)
	}
	d.Nodes[31].Arg = strings.Repeat("s", signal)
	return d
}

// The greatest text that is read, and the least that is not.
func TestTextAtTheBound(t *testing.T) {
	d := crowd(1)
	for i := 31; len(dag.Text(d)) > 16384; i-- {
		d.Nodes[i].After = nil
	}
	for i := 0; len(dag.Text(d)) < 16384; i++ {
		n := &d.Nodes[i%32]
		n.Arg = strings.Repeat("s", min(64, 1+16384-len(dag.Text(d))))
	}
	text := dag.Text(d)
	if len(text) != 16384 {
		t.Fatal(len(text))
	}
	holdParse(t, run{text: text, d: d})
	d.Name += "w"
	text = dag.Text(d)
	if len(text) != 16385 {
		t.Fatal(len(text))
	}
	refuses(t, text, 0, api.ErrLarge)
	if node, e := dag.Check(d); node != -1 || e != api.OK {
		t.Fatal(node, e)
	}
	all := dag.Text(crowd(64))
	if all != written(crowd(64)) || len(all) <= 16384 {
		t.Fatal(len(all))
	}
	refuses(t, all, 0, api.ErrLarge)
}

// R2, R4: nothing is kept from one text to the next, and what was read is the reader's own.
func TestParseAnswersNewMemory(t *testing.T) {
	text := "workflow w\na wait s\nb wait s after a\nc wait s after a b"
	first, _, _ := dag.Parse(text)
	dag.Parse("workflow v\nx activity q tries 2\ny timer 4 after x")
	dag.Parse("workflow v\nx")
	second, _, _ := dag.Parse(text)
	for i := range first.Nodes {
		after := first.Nodes[i].After
		for j := range after[:cap(after)] {
			after[:cap(after)][j] = "changed"
		}
	}
	nodes := first.Nodes[:cap(first.Nodes)]
	for i := range nodes {
		nodes[i] = api.Node{Name: "changed"}
	}
	want := def(wait("a", "s"), wait("b", "s", "a"), wait("c", "s", "a", "b"))
	if !same(second, want) {
		t.Fatalf("%+v", second)
	}
	reads(t, text, want.Nodes...)
}

// No two lists of one answer share memory: to lengthen one changes none of the others.
func TestListsOfOneDefinitionAreApart(t *testing.T) {
	d, _, _ := dag.Parse("workflow w\na wait s\nb wait s after a\nc wait s after a b\nd wait s after a b c\n")
	for i := range d.Nodes {
		_ = append(d.Nodes[i].After, "x", "y", "z")
	}
	if !same(d, def(wait("a", "s"), wait("b", "s", "a"), wait("c", "s", "a", "b"), wait("d", "s", "a", "b", "c"))) {
		t.Fatalf("%+v", d)
	}
}
