package front_test

import (
	"encoding/json"
	"fmt"
	"math"
	"math/rand"
	"reflect"
	"slices"
	"strings"
	"testing"
	"unicode/utf8"

	"tiller/api"
	"tiller/front"
	"tiller/history"
)

// P13.3: Quote

// toldQuote is Quote by the chapter's words.
func toldQuote(s string) string {
	out := `"`
	for at, c := range s {
		switch {
		case c == utf8.RuneError && !strings.HasPrefix(s[at:], "\ufffd"):
			out += `\ufffd`
		case c == '"':
			out += `\"`
		case c == '\\':
			out += `\\`
		case c == 8:
			out += `\b`
		case c == 12:
			out += `\f`
		case c == 10:
			out += `\n`
		case c == 13:
			out += `\r`
		case c == 9:
			out += `\t`
		case c < 32:
			out += fmt.Sprintf(`\u%04x`, c)
		default:
			out += string(c)
		}
	}
	return out + `"`
}

// holdQuote holds Quote to the chapter's words, and what it writes to be read again as it was, by Object and by the library.
func holdQuote(t *testing.T, s string) {
	t.Helper()
	got := front.Quote(s)
	if want := toldQuote(s); got != want {
		t.Fatalf("Quote of %q is %s, want %s", s, got, want)
	}
	was := ""
	for _, c := range s { // what belongs to no character is U+FFFD, byte by byte
		was += string(c)
	}
	list, at, e := front.Object(`{` + got + `:` + got + `}`)
	if at != 0 || e != api.OK || len(list) != 1 || list[0] != (api.Pair{Key: was, Value: `"` + was}) {
		t.Fatalf("Object of %s is %q, %d, %d, want %q", got, list, at, e, was)
	}
	var read string
	if err := json.Unmarshal([]byte(got), &read); err != nil || read != was {
		t.Fatalf("%s is read as %q, %v, want %q", got, read, err, was)
	}
}

func TestQuote(t *testing.T) {
	for s, want := range map[string]string{
		"": `""`, "a": `"a"`, "\b\"": `"\b\""`, "\\": `"\\"`, "/": `"/"`, "\b\f\n\r\t": `"\b\f\n\r\t"`, "\x00\x01\x0b\x0e\x1f": `"\u0000\u0001\u000b\u000e\u001f"`, "\x7f": "\"\x7f\"",
		"é": `"é"`, "日本": `"日本"`, "\U0001f600": "\"\U0001f600\"", "\ufffd": "\"\ufffd\"", "\u2028<>&'": "\"\u2028<>&'\"",
		"\xff": `"\ufffd"`, "a\x80b": `"a\ufffdb"`, "\xe6\x97": `"\ufffd\ufffd"`, "\xe6\x97\xa5\xe6": `"日\ufffd"`, "\xed\xa0\x80": `"\ufffd\ufffd\ufffd"`, "\xc0\x80": `"\ufffd\ufffd"`, "\xf4\x90\x80\x80": `"\ufffd\ufffd\ufffd\ufffd"`,
	} {
		if got := front.Quote(s); got != want {
			t.Fatalf("Quote of %q is %s, want %s", s, got, want)
		}
		holdQuote(t, s)
	}
	for c := range 256 {
		s := string([]byte{byte(c)})
		holdQuote(t, s)
		holdQuote(t, "a"+s+"b")
		for d := range 256 {
			holdQuote(t, s+string([]byte{byte(d)}))
		}
	}
	for c := rune(0); c <= utf8.MaxRune; c += 1 + c/97 {
		holdQuote(t, string(c))
	}
	r := rand.New(rand.NewSource(133))
	for range 3000 {
		s := make([]byte, r.Intn(20))
		for i := range s {
			s[i] = "\x00\b\n\x1f \"\\/au\x7f\x80\xa9\xc3\xe6\x97\xa5\xf0\x9f\x98\xff"[r.Intn(21)]
		}
		holdQuote(t, string(s))
	}
	long := strings.Repeat("a\n\xff", 1<<18)
	if got := front.Quote(long); got != `"`+strings.Repeat(`a\n\ufffd`, 1<<18)+`"` {
		t.Fatal(len(got))
	}
}

// P13.4

func TestReply(t *testing.T) {
	words := map[int]string{200: "OK", 307: "Temporary Redirect", 400: "Bad Request", 404: "Not Found", 405: "Method Not Allowed", 409: "Conflict", 413: "Content Too Large", 429: "Too Many Requests", 431: "Request Header Fields Too Large", 503: "Service Unavailable"}
	statuses := []int{math.MinInt, -200, -1, math.MaxInt}
	for status := range 1100 {
		statuses = append(statuses, status)
	}
	for _, status := range statuses {
		word, known := words[status]
		if !known {
			word = "Unknown"
		}
		for _, body := range []string{"", "x", `{"error":"none"}`, strings.Repeat("b", 10), "é\xff\x00\r\n\r\n"} {
			want := fmt.Sprintf("HTTP/1.1 %d %s\r\nContent-Length: %d\r\n\r\n%s", status, word, len(body), body)
			if got := string(front.Reply(status, body)); got != want {
				t.Fatalf("Reply of %d and %q is %q, want %q", status, body, got, want)
			}
		}
	}
	for _, size := range []int{9, 10, 99, 100, 999, 1000, 4096, 100000, 1 << 22} {
		body := strings.Repeat("b", size)
		if got := string(front.Reply(200, body)); got != fmt.Sprintf("HTTP/1.1 200 OK\r\nContent-Length: %d\r\n\r\n%s", size, body) {
			t.Fatalf("%.100q", got)
		}
	}
	one, two := front.Reply(200, "x"), front.Reply(200, "x")
	one = one[:cap(one)]
	for i := range one {
		one[i] = '-'
	}
	if want := "HTTP/1.1 200 OK\r\nContent-Length: 1\r\n\r\nx"; string(two) != want || string(front.Reply(200, "x")) != want {
		t.Fatalf("%q", two)
	}
}

func TestError(t *testing.T) {
	type reply struct {
		status int
		word   string
	}
	said := map[api.Errno]reply{
		api.ErrNone: {404, "none"}, api.ErrThere: {409, "there"}, api.ErrClosed: {409, "closed"}, api.ErrState: {409, "state"}, api.ErrFull: {429, "full"}, api.ErrLarge: {413, "large"},
		api.ErrName: {400, "name"}, api.ErrForm: {400, "form"}, api.ErrArg: {400, "argument"}, api.ErrIO: {503, "storage"}, api.ErrDead: {503, "storage"}, api.ErrOwner: {307, "owner"}, api.ErrFence: {307, "owner"},
	}
	numbers := []api.Errno{math.MinInt, math.MaxInt, 1 << 32}
	for e := range api.Errno(300) {
		numbers = append(numbers, e-20)
	}
	for _, e := range numbers {
		want, known := said[e]
		if !known {
			want = reply{400, "refused"}
		}
		status, body := front.Error(e)
		if status != want.status || body != `{"error":"`+want.word+`"}` {
			t.Fatal(e, status, body)
		}
		list, _, _ := front.Object(body)
		if word, ok := front.Text(list, "error"); len(list) != 1 || word != want.word || !ok {
			t.Fatal(e, list)
		}
	}
	for _, e := range []api.Errno{api.OK, api.ErrMany, api.ErrOrder, api.ErrLoop, api.ErrTwice} {
		if status, body := front.Error(e); status != 400 || body != `{"error":"refused"}` {
			t.Fatal(e, status, body)
		}
	}
}

// P13.5

// toldState is State by the chapter's words.
func toldState(d api.Def, s api.State) string {
	status := map[int]string{api.Running: "running", api.Done: "done", api.Broken: "broken", api.Canceled: "canceled"}[s.Status]
	if status == "" {
		status = "none"
	}
	over, left := 0, 0
	var nodes []string
	for i, n := range s.Nodes {
		if n.Status == api.Over {
			over++
		} else {
			left++
		}
		if i < len(d.Nodes) {
			stands := map[int]string{api.Idle: "idle", api.Ready: "ready", api.Busy: "busy", api.Over: "over", api.Bad: "bad"}[n.Status]
			nodes = append(nodes, fmt.Sprintf(`{"name":%s,"status":"%s","try":%d,"text":%s}`, toldQuote(d.Nodes[i].Name), stands, n.Try, toldQuote(n.Text)))
		}
	}
	return fmt.Sprintf(`{"flow":%s,"def":%s,"status":"%s","text":%s,"events":%d,"over":%d,"left":%d,"nodes":[%s]}`,
		toldQuote(s.ID), toldQuote(s.Def), status, toldQuote(s.Text), s.Events, over, left, strings.Join(nodes, ","))
}

func TestStateOfRuns(t *testing.T) {
	d := api.Def{Name: "w", Nodes: []api.Node{{Name: "a", Kind: api.Activity, Arg: "q", Tries: 2}, {Name: "b", Kind: api.Wait, Arg: "s", After: []string{"a"}}}}
	var s api.State
	for _, step := range []struct {
		in   api.Input
		want string
	}{
		{api.Input{Kind: api.InStart, Name: "f"}, `{"flow":"f","def":"w","status":"running","text":"","events":2,"over":0,"left":2,"nodes":[{"name":"a","status":"ready","try":0,"text":""},{"name":"b","status":"idle","try":0,"text":""}]}`},
		{api.Input{Kind: api.InTake, Node: "a"}, `{"flow":"f","def":"w","status":"running","text":"","events":3,"over":0,"left":2,"nodes":[{"name":"a","status":"busy","try":1,"text":""},{"name":"b","status":"idle","try":0,"text":""}]}`},
		{api.Input{Kind: api.InComplete, Node: "a", Try: 1, Text: "r\n"}, `{"flow":"f","def":"w","status":"running","text":"","events":5,"over":1,"left":1,"nodes":[{"name":"a","status":"over","try":1,"text":"r\n"},{"name":"b","status":"busy","try":0,"text":""}]}`},
		{api.Input{Kind: api.InSignal, Name: "s", Text: `"x"`}, `{"flow":"f","def":"w","status":"done","text":"\"x\"","events":7,"over":2,"left":0,"nodes":[{"name":"a","status":"over","try":1,"text":"r\n"},{"name":"b","status":"over","try":0,"text":"\"x\""}]}`},
	} {
		_, next, _, e := history.Step(d, s, step.in)
		if e != api.OK {
			t.Fatal(e)
		}
		s = next
		if got := front.State(d, s); got != step.want {
			t.Fatalf("%s\nwant %s", got, step.want)
		}
	}
	if got := front.State(api.Def{}, api.State{}); got != `{"flow":"","def":"","status":"none","text":"","events":0,"over":0,"left":0,"nodes":[]}` {
		t.Fatal(got)
	}
}

// Nodes are those that both have; those that are over are counted among the state's.
func TestStateOfAnyNodes(t *testing.T) {
	statuses := []int{math.MinInt, -1, api.Idle, api.Ready, api.Busy, api.Over, api.Bad, 5, 6, math.MaxInt}
	texts := []string{"", "a", `"`, `\`, "\n", "é", "\xff", strings.Repeat("t", 300)}
	r := rand.New(rand.NewSource(135))
	text := func() string { return texts[r.Intn(len(texts))] }
	for range 3000 {
		d := api.Def{Name: text(), Nodes: make([]api.Node, r.Intn(5))}
		for i := range d.Nodes {
			d.Nodes[i] = api.Node{Name: text(), Kind: r.Intn(7), Arg: text(), After: []string{text()}}
		}
		s := api.State{Def: text(), ID: text(), Parent: text(), ParentNode: text(), Status: r.Intn(8) - 1, Text: text(), Events: r.Intn(100) - 5, Nodes: make([]api.NodeState, r.Intn(5)), Signals: make([]api.Signal, r.Intn(3))}
		for i := range s.Nodes {
			s.Nodes[i] = api.NodeState{Status: statuses[r.Intn(len(statuses))], Try: r.Intn(20) - 5, Text: text()}
		}
		got, want := front.State(d, s), toldState(d, s)
		if got != want {
			t.Fatalf("State of %+v and %+v is\n%s\nwant %s", d, s, got, want)
		}
		if !json.Valid([]byte(got)) {
			t.Fatal(got)
		}
	}
	for _, status := range statuses {
		d, s := api.Def{Nodes: []api.Node{{Name: "n"}}}, api.State{Status: status, Nodes: []api.NodeState{{Status: status}}}
		if got, want := front.State(d, s), toldState(d, s); got != want {
			t.Fatalf("%s, want %s", got, want)
		}
	}
	d, s := api.Def{Nodes: make([]api.Node, 3)}, api.State{Events: math.MaxInt, Nodes: []api.NodeState{{Try: math.MinInt}}}
	if got, want := front.State(d, s), toldState(d, s); got != want {
		t.Fatalf("%s, want %s", got, want)
	}
}

// R2: what is handed in is not changed, its spare room included.
func TestStateLeavesWhatItIsGiven(t *testing.T) {
	nodes := []api.Node{{Name: "a", After: []string{"b"}}, {Name: "b"}, {Name: "spare"}}
	states := []api.NodeState{{Status: api.Over}, {Status: api.Bad, Text: "t"}, {Text: "spare"}}
	d := api.Def{Name: "w", Nodes: nodes[:2]}
	s := api.State{Def: "w", ID: "f", Status: api.Running, Nodes: states[:2], Signals: []api.Signal{{Name: "s", Text: "x"}}}
	nodesWere, statesWere := slices.Clone(nodes), slices.Clone(states)
	first := front.State(d, s)
	if !reflect.DeepEqual(nodes, nodesWere) || !reflect.DeepEqual(states, statesWere) {
		t.Fatal(nodes, states)
	}
	if second := front.State(d, s); second != first {
		t.Fatal(first, second)
	}
}
