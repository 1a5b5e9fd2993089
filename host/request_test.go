package host_test

import (
	"fmt"
	"maps"
	"math"
	"slices"
	"strings"
	"testing"

	"tiller/api"
	"tiller/host"
)

// P14.5, P14.7

// everyPath are all that there are.
func everyPath() []string {
	return []string{"/start", "/signal", "/complete", "/fail", "/cancel", "/poll", "/query"}
}

// rightBody is a body for a path, about a flow and with a request.
func rightBody(path, flow, request string) string {
	switch path {
	case "/start":
		return object("flow", flow, "def", "w", "request", request)
	case "/signal":
		return object("flow", flow, "name", "s", "text", "x", "request", request)
	case "/complete", "/fail":
		return object("flow", flow, "node", "a", "try", 1, "text", "x", "request", request)
	case "/cancel":
		return object("flow", flow, "text", "x", "request", request)
	case "/poll":
		return object("queue", "q")
	}
	return ""
}

// The table of runs.
func TestRuns(t *testing.T) {
	w := lay(t, 1, 1, wText)
	h := w.host(0)
	h.Learn(api.View{Version: 1, Hosts: []int{0}})
	first := object("flow", "f", "def", "w", "request", "r")
	asks(t, h, "/start", first, 307, owner(0))
	picks(t, h, api.PickOwn, 0, 0, now, api.OK)
	asks(t, h, "/start", first, 200, events(2))
	asks(t, h, "/start", object("flow", "f", "def", "w"), 409, refused("there"))
	asks(t, h, "/start", first, 200, events(2))
	asks(t, h, "/poll", object("queue", "q"), 404, refused("none"))
	picks(t, h, api.PickLoad, 0, 0, now, api.OK)
	asks(t, h, "/poll", object("queue", "q"), 200, given("f", "a", 1))
	asks(t, h, "/poll", object("queue", "q"), 404, refused("none"))
	asks(t, h, "/complete", object("flow", "f", "node", "a", "try", 1, "text", "r"), 200, events(5))
	asks(t, h, "/query?flow=f", "", 200, `{"flow":"f","def":"w","status":"running","text":"","events":5,"over":1,"left":1,"nodes":[{"name":"a","status":"over","try":1,"text":"r"},{"name":"b","status":"busy","try":0,"text":""}]}`)
	asks(t, h, "/signal", object("flow", "f", "name", "s", "text", "x"), 200, events(7))
	picks(t, h, api.PickAck, 0, 0, now, api.OK)
	h.Learn(api.View{Version: 2})
	picks(t, h, api.PickOwn, 0, 0, now, api.OK)
	asks(t, h, "/query?flow=f", "", 307, owner(-1))
}

func TestEachPathWithEachMethod(t *testing.T) {
	w := lay(t, 1, 1, wText)
	held := w.alone(0)
	for _, h := range []*host.Host{held, w.host(0)} {
		for _, method := range []string{"GET", "POST", "PUT", "get", "post", "", "GET "} {
			for _, path := range everyPath() {
				for _, behind := range []string{"", "?", "?flow=f", "?x=y"} {
					right := method == "POST"
					if path == "/query" {
						right = method == "GET"
					}
					status, body := h.Request(method, path+behind, "no body", now)
					if is := status == 405; is == right || is && body != refused("method") {
						t.Fatal(method, path, behind, status, body)
					}
				}
			}
			for _, path := range []string{"", "/", "start", "/Start", "/start/", "//start", "/starts", " /start", "/star", "/nothing", "?", "?/start", "/start ?", "/start%3f"} {
				status, body := h.Request(method, path, object("flow", "f", "def", "w"), now)
				if status != 404 || body != refused("none") {
					t.Fatal(method, path, status, body)
				}
			}
		}
	}
	if l := w.exec(0).Flows(); len(l) != 0 {
		t.Fatal(l)
	}
}

func TestBodiesThatAreRefused(t *testing.T) {
	w := lay(t, 1, 1, wText)
	h := w.alone(0)
	var many []any
	for i := range 17 {
		many = append(many, fmt.Sprint("x", i), i)
	}
	for _, path := range everyPath()[:6] {
		right := rightBody(path, "f", "r")
		for _, body := range []string{"", " ", "[]", "{", right[:len(right)-1], right + "x", "x" + right, `{"flow":"f","flow":"f"}`, `{"flow":1,"flow":1}`, object(many...), `{"flow":null}`, `{"flow":"` + "\xff" + `"}`, `{"flow":"\ud800"}`, `{"try":01}`, `{"try":1.5}`} {
			asks(t, h, path, body, 400, refused("form"))
			asks(t, h, path+"?flow=f", body, 400, refused("form"))
		}
	}
	for _, body := range []string{"", "{", "\xff", object("flow", "g")} { // of a query it is not looked at
		asks(t, h, "/query?flow=f", body, 404, refused("none"))
		asks(t, h, "/query", body, 400, refused("argument"))
	}
	asks(t, h, "/start", " \t\r\n{ \"def\" : \"\\u0077\" ,\n\"flow\": \"f\" } ", 200, events(2))
}

// Each field of each path lacks, or is of the other kind.
func TestFields(t *testing.T) {
	for _, path := range everyPath()[:6] {
		for _, f := range strings.Fields(fieldsOf()[path]) {
			name := strings.TrimLeft(f, "?#")
			var others []any
			for _, o := range strings.Fields(fieldsOf()[path]) {
				switch o {
				case f:
				case "#try":
					others = append(others, "try", 1)
				default:
					others = append(others, strings.TrimLeft(o, "?"), map[string]string{"flow": "f", "def": "w", "name": "s", "node": "a", "queue": "q"}[o])
				}
			}
			w := lay(t, 1, 1, wText)
			h := w.alone(0)
			unheld := w.host(0)
			lacks := object(others...)
			wrong := object(append(others, name, 5)...)
			if f[0] == '#' {
				wrong = object(append(others, name, "1")...)
			}
			was := w.told()
			for _, h := range []*host.Host{h, unheld} {
				asks(t, h, path, wrong, 400, refused("argument"))
				if f[0] != '?' {
					asks(t, h, path, lacks, 400, refused("argument"))
					asks(t, h, path, object(append(others, strings.ToUpper(name), "f")...), 400, refused("argument"))
				}
			}
			if w.told() != was {
				t.Fatal("something has changed")
			}
			if f[0] == '?' {
				if status, body := h.Request("POST", path, lacks, now); status == 400 {
					t.Fatal(path, lacks, body)
				}
			}
		}
	}
}

// Fields that a path has not may be anything.
func TestOtherFields(t *testing.T) {
	w := lay(t, 1, 1, wText)
	h := w.alone(0)
	long := strings.Repeat("x", 300)
	asks(t, h, "/start", object("text", 7, "name", 7, "node", 7, "try", "x", "queue", 7, "flow", "f", "def", "w"), 200, events(2))
	asks(t, h, "/signal", object("def", 7, "try", "x", "flow", "f", "name", "z", "node", 1, "queue", 1), 200, events(3))
	asks(t, h, "/cancel", object("def", 7, "name", 7, "node", 7, "try", "x", "queue", 7, "flow", "f", "text", "why"), 200, events(4))
	asks(t, h, "/poll", object("queue", "q", "flow", 5, "request", 7, "text", 7), 404, refused("none"))
	asks(t, h, "/poll", object("queue", "q", "flow", "a b", "request", long), 404, refused("none"))
	asks(t, h, "/start", object("flow", "g", "def", "w", "parent", "p", "text", long, "name", "n", "more", long), 200, events(2))
	if s := w.state("g"); s.Parent != "" || s.ParentNode != "" || s.ID != "g" {
		t.Fatal(s)
	}
	if s := w.state("f"); s.Status != api.Canceled || s.Text != "why" {
		t.Fatal(s)
	}
}

// wrongFlows are texts that no workflow has as its name.
func wrongFlows() []string {
	return []string{"", " ", "a b", "a\\n", "é", "a?b", "a&x=b", "a%20", "f=g", strings.Repeat("f", 257), "a\\\\"}
}

func TestFlows(t *testing.T) {
	w := lay(t, 1, 1, wText)
	h := w.alone(0)
	for _, h := range []*host.Host{h, w.host(0)} {
		for _, flow := range wrongFlows() {
			for _, path := range everyPath()[:5] {
				asks(t, h, path, rightBody(path, flow, "r"), 400, refused("name"))
			}
			asks(t, h, "/query?flow="+flow, "", 400, refused("name"))
		}
	}
	long := strings.Repeat("f", 256)
	for _, flow := range []string{"f", "a/b", "/", "//a.b-c_d/0Z", long} {
		asks(t, h, "/query?flow="+flow, "", 404, refused("none"))
		asks(t, h, "/start", rightBody("/start", flow, ""), 200, events(2))
		if w.state(flow).ID != flow {
			t.Fatal(w.state(flow))
		}
	}
}

// What stands behind a query's path.
func TestQueries(t *testing.T) {
	w := lay(t, 1, 1, wText)
	h := w.alone(0)
	starts(t, h, "f", "w")
	const state = `{"flow":"f","def":"w","status":"running","text":"","events":2,"over":0,"left":2,"nodes":[{"name":"a","status":"ready","try":0,"text":""},{"name":"b","status":"idle","try":0,"text":""}]}`
	was := w.told()
	for path, want := range map[string]string{
		"/query": "argument", "/query?": "argument", "/query?f": "argument", "/query?flow": "argument", "/query?Flow=f": "argument", "/query?x=1&flow=f": "argument", "/query? flow=f": "argument", "/query??flow=f": "argument", "/query?request=r": "argument", "/query?&flow=f": "argument",
		"/query?flow=": "name", "/query?flow=f&x=1": "name", "/query?flow==f": "name", "/query?flow= f": "name", "/query?flow=f?": "name", "/query?flow=f?flow=f": "name",
	} {
		asks(t, h, path, "", 400, refused(want))
	}
	asks(t, h, "/query?flow=f", "", 200, state)
	asks(t, h, "/query?flow=f", object("flow", "g", "request", strings.Repeat("x", 300)), 200, state)
	asks(t, h, "/query?flow=g", "", 404, refused("none"))
	asks(t, h, "/query?flow=F", "", 404, refused("none"))
	if w.told() != was {
		t.Fatal("something has changed")
	}
	w.c.Defs = defs(t, "workflow v\na wait s")
	asks(t, w.alone(0), "/query?flow=f", "", 404, refused("none")) // its definition is none of those that this host has
}

func TestRequestsOfManyBytes(t *testing.T) {
	w := lay(t, 1, 1, wText)
	h := w.alone(0)
	fits, long := strings.Repeat("é", 128), strings.Repeat("é", 128)+"x"
	for _, path := range everyPath()[:5] {
		for _, h := range []*host.Host{h, w.host(0)} {
			asks(t, h, path, rightBody(path, "f", long), 413, refused("large"))
		}
	}
	asks(t, h, "/start", rightBody("/start", "f", fits), 200, events(2))
	asks(t, h, "/start", rightBody("/start", "f", fits), 200, events(2))
	asks(t, h, "/cancel", rightBody("/cancel", "f", fits), 200, events(2)) // it is known
}

// A host without an open hold of the workflow's shard changes nothing, and says who may.
func TestWithoutAHold(t *testing.T) {
	w := lay(t, 12, 16, wText)
	h := w.alone(3)
	zero, eleven := flowOf(0, 12, 0), flowOf(11, 12, 0)
	starts(t, h, zero, "w")
	asks(t, h, "/start", rightBody("/start", eleven, "r"), 200, events(2))
	h.Forget(0, nil)
	viewed, two := w.host(9), w.host(5)
	viewed.Learn(api.View{Version: 1, Hosts: []int{9}})
	two.Learn(api.View{Version: 1, Hosts: []int{9, 15}}) // shard 0 is host 9's, shard 11 host 15's
	was := w.told()
	for _, path := range everyPath() {
		if path == "/poll" {
			continue
		}
		ask := func(h *host.Host, flow string, to int) {
			t.Helper()
			where := path
			if path == "/query" {
				where += "?flow=" + flow
			}
			asks(t, h, where, rightBody(path, flow, "r"), 307, owner(to))
		}
		for _, flow := range []string{zero, flowOf(0, 12, 1)} { // whether there is such a workflow or not
			ask(w.host(3), flow, -1)
			ask(h, flow, 3)
			ask(viewed, flow, 9)
			ask(two, flow, 9)
		}
		ask(two, eleven, 15) // known as it may be
	}
	for _, h := range []*host.Host{w.host(3), viewed, two} {
		asks(t, h, "/poll", object("queue", "q"), 404, refused("none"))
	}
	if w.told() != was {
		t.Fatal("something has changed")
	}
}

// A request that is known is answered as it was, whatever it asks for now, and does nothing.
func TestKnownRequests(t *testing.T) {
	w := lay(t, 1, 1, "workflow w\na wait s\nb wait z\nc activity q")
	h := w.alone(0)
	starts(t, h, "g", "w")
	asks(t, h, "/start", rightBody("/start", "f", "r1"), 200, events(4))
	asks(t, h, "/signal", object("flow", "f", "name", "s", "request", "r2"), 200, events(5))
	asks(t, h, "/signal", object("flow", "f", "name", "s", "request", "r3"), 200, events(6))
	was := w.told()
	for request, n := range map[string]int{"r1": 4, "r2": 5, "r3": 6} {
		for _, path := range everyPath()[:5] {
			asks(t, h, path, rightBody(path, "f", request), 200, events(n))
		}
		asks(t, h, "/start", object("flow", "f", "def", "no definition", "request", request), 200, events(n))
		asks(t, h, "/signal", object("flow", "f", "name", "no name", "text", strings.Repeat("x", 300), "request", request), 200, events(n))
		asks(t, h, "/complete", object("flow", "f", "node", "x", "try", 9, "request", request), 200, events(n))
	}
	if w.told() != was {
		t.Fatal("something has changed")
	}
	asks(t, h, "/cancel", rightBody("/cancel", "g", "r1"), 200, events(5))  // another workflow knows it not
	asks(t, h, "/signal", object("flow", "f", "name", "s"), 200, events(7)) // the empty one is never known
	asks(t, h, "/signal", object("flow", "f", "name", "s", "request", ""), 200, events(8))
	asks(t, h, "/signal", object("flow", "f", "name", "s", "request", "R1"), 200, events(9))
	asks(t, w.alone(0), "/cancel", rightBody("/cancel", "f", "r2"), 200, events(5)) // whoever holds the shard
	w.c.Defs = nil
	asks(t, w.alone(0), "/cancel", rightBody("/cancel", "f", "r2"), 200, events(5)) // also where the definition is unknown
	asks(t, w.alone(0), "/cancel", rightBody("/cancel", "f", "r9"), 404, refused("none"))
}

// What is refused is not known: it may be tried again.
func TestRefusedRequestsAreNotKnown(t *testing.T) {
	w := lay(t, 1, 1, wText)
	h := w.alone(0)
	asks(t, h, "/cancel", object("flow", "f", "request", "r"), 404, refused("none"))
	w.disks[0].Fail(0, 0)
	asks(t, h, "/start", rightBody("/start", "f", "r"), 503, refused("storage"))
	if len(w.exec(0).Flows()) != 0 {
		t.Fatal(w.exec(0).Flows())
	}
	asks(t, h, "/start", rightBody("/start", "f", "r"), 200, events(2))
	if answer, known := w.exec(0).Answer("f", "r"); answer != events(2) || !known {
		t.Fatal(answer, known)
	}
	asks(t, h, "/signal", object("flow", "f", "name", "a b", "request", "r2"), 400, refused("name"))
	asks(t, h, "/signal", object("flow", "f", "name", "s", "request", "r2"), 200, events(3))
}

// Of more than 64 requests the oldest is forgotten: it is done anew.
func TestForgottenRequests(t *testing.T) {
	text := "workflow w"
	for i := range 32 {
		text += fmt.Sprintf("\nn%d wait s%d", i, i)
	}
	w := lay(t, 1, 1, text)
	h := w.alone(0)
	asks(t, h, "/start", rightBody("/start", "f", "first"), 200, events(33))
	for i := range 31 {
		asks(t, h, "/signal", object("flow", "f", "name", fmt.Sprint("s", i), "request", fmt.Sprint("r", i)), 200, events(34+i))
	}
	for i := range 32 {
		asks(t, h, "/signal", object("flow", "f", "name", "z", "request", fmt.Sprint("z", i)), 200, events(65+i))
	}
	asks(t, h, "/signal", object("flow", "f", "name", "z", "request", "more"), 429, refused("full"))
	asks(t, h, "/start", rightBody("/start", "f", "first"), 200, events(33))
	asks(t, h, "/signal", object("flow", "f", "name", "s31", "request", "last"), 200, events(98))
	asks(t, h, "/start", rightBody("/start", "f", "first"), 409, refused("there"))
	asks(t, h, "/cancel", rightBody("/cancel", "f", "r0"), 200, events(34))
	asks(t, h, "/cancel", rightBody("/cancel", "f", "last"), 200, events(98))
}

// What Step refuses.
func TestRefusedBySteps(t *testing.T) {
	w := lay(t, 1, 1, "workflow w\na activity q tries 2\nb wait s after a\nc activity p", "workflow v\na wait s")
	h := w.alone(0)
	long, fits := strings.Repeat("x", 257), strings.Repeat("x", 256)
	for _, path := range []string{"/signal", "/complete", "/fail", "/cancel"} { // there is no such workflow
		asks(t, h, path, rightBody(path, "f", "r"), 404, refused("none"))
	}
	asks(t, h, "/start", object("flow", "f", "def", ""), 404, refused("none"))
	asks(t, h, "/start", object("flow", "f", "def", "W"), 404, refused("none"))
	asks(t, h, "/start", object("flow", "f", "def", "w"), 200, events(3))
	asks(t, h, "/start", object("flow", "f", "def", "v"), 409, refused("there"))
	asks(t, h, "/start", object("flow", "f", "def", "x"), 404, refused("none")) // ahead of that
	asks(t, h, "/signal", object("flow", "f", "name", "", "text", long), 400, refused("name"))
	asks(t, h, "/signal", object("flow", "f", "name", "a/b"), 400, refused("name"))
	asks(t, h, "/signal", object("flow", "f", "name", "s", "text", long), 413, refused("large"))
	for _, path := range []string{"/complete", "/fail"} {
		asks(t, h, path, object("flow", "f", "node", "x", "try", 1), 404, refused("none"))
		asks(t, h, path, object("flow", "f", "node", "b", "try", 1), 404, refused("none"))
		asks(t, h, path, object("flow", "f", "node", "", "try", 1), 404, refused("none"))
		asks(t, h, path, object("flow", "f", "node", "a", "try", 1), 409, refused("state")) // nobody has taken it
	}
	picks(t, h, api.PickLoad, 0, 15, now, api.OK)
	asks(t, h, "/poll", object("queue", "q"), 200, given("f", "a", 1))
	for _, path := range []string{"/complete", "/fail"} {
		for _, try := range []int{0, 2, -1, 999999999999999} {
			asks(t, h, path, object("flow", "f", "node", "a", "try", try, "text", long), 409, refused("state"))
		}
		asks(t, h, path, object("flow", "f", "node", "a", "try", 1, "text", long), 413, refused("large"))
	}
	asks(t, h, "/cancel", object("flow", "f", "text", long), 413, refused("large"))
	asks(t, h, "/fail", object("flow", "f", "node", "a", "try", 1, "text", fits), 200, events(5))
	asks(t, h, "/cancel", object("flow", "f", "text", fits), 200, events(6))
	for _, path := range []string{"/signal", "/complete", "/fail", "/cancel"} {
		asks(t, h, path, rightBody(path, "f", "r"), 409, refused("closed"))
	}
	asks(t, h, "/start", rightBody("/start", "f", "r"), 409, refused("there"))
	w.c.Defs = w.c.Defs[1:]
	h = w.alone(0)
	for _, path := range []string{"/signal", "/complete", "/fail", "/cancel"} { // its definition is unknown
		asks(t, h, path, rightBody(path, "f", "r"), 404, refused("none"))
	}
	asks(t, h, "/start", rightBody("/start", "f", "r"), 404, refused("none"))
	asks(t, h, "/start", object("flow", "f", "def", "v"), 409, refused("there"))
}

// What each input makes of a workflow.
func TestInputs(t *testing.T) {
	w := lay(t, 1, 1, "workflow w\na activity q tries 2\nb wait s\nc activity q after a\nd timer 5 after a")
	h := w.alone(0)
	starts(t, h, "f", "w")
	picks(t, h, api.PickLoad, 0, 15, now, api.OK)
	asks(t, h, "/poll", object("queue", "q"), 200, given("f", "a", 1))
	asks(t, h, "/fail", object("flow", "f", "node", "a", "try", 1, "text", "again"), 200, events(5))
	picks(t, h, api.PickLoad, 0, 15, now, api.OK)
	asks(t, h, "/poll", object("queue", "q"), 200, given("f", "a", 2))
	if status, _ := h.Request("POST", "/complete", object("flow", "f", "node", "a", "try", 2, "text", "done\\u0021"), 20); status != 200 {
		t.Fatal(status)
	}
	asks(t, h, "/signal", object("flow", "f", "name", "s", "text", "sig"), 200, events(10))
	asks(t, h, "/signal", object("flow", "f", "name", "z"), 200, events(11))
	asks(t, h, "/cancel", object("flow", "f", "text", "why"), 200, events(12))
	var got []string
	for _, e := range w.exec(0).Events("f") {
		got = append(got, strings.TrimRight(fmt.Sprint(e.Kind, e.Node, e.Text, e.Number), " "))
	}
	var want []string
	for _, e := range []api.Event{
		{Kind: api.Started}, {Kind: api.Scheduled, Node: "a"}, {Kind: api.Awaited, Node: "b"}, {Kind: api.Taken, Node: "a", Number: 1}, {Kind: api.Retried, Node: "a", Text: "again", Number: 1}, {Kind: api.Taken, Node: "a", Number: 2},
		{Kind: api.Completed, Node: "a", Text: "done!"}, {Kind: api.Scheduled, Node: "c"}, {Kind: api.TimerSet, Node: "d", Number: 25}, {Kind: api.Received, Node: "b", Text: "sig"}, {Kind: api.Kept, Node: "z"}, {Kind: api.Closed, Text: "why", Number: api.Canceled},
	} {
		want = append(want, strings.TrimRight(fmt.Sprint(e.Kind, e.Node, e.Text, e.Number), " "))
	}
	if !slices.Equal(got, want) {
		t.Fatalf("%q\n%q", got, want)
	}
}

// What Commit refuses; nothing has changed then.
func TestRefusedByCommits(t *testing.T) {
	for _, path := range everyPath()[:5] {
		w := lay(t, 1, 2, wText)
		h := w.alone(1)
		flow := "f"
		if path != "/start" {
			starts(t, h, "f", "w")
			picks(t, h, api.PickLoad, 0, 0, now, api.OK)
			asks(t, h, "/poll", object("queue", "q"), 200, given("f", "a", 1))
		}
		body := rightBody(path, flow, "r")
		for after := range 3 {
			was := fmt.Sprint(w.exec(0).Flows(), w.exec(0).Events("f"))
			w.disks[0].Fail(after, 2)
			asks(t, h, path, body, 503, refused("storage"))
			if got := fmt.Sprint(w.exec(0).Flows(), w.exec(0).Events("f")); got != was {
				t.Fatal(got)
			}
			if _, known := w.exec(0).Answer(flow, "r"); known {
				t.Fatal("it is known")
			}
		}
		w.disks[0].Stop(0)
		asks(t, h, path, body, 503, refused("storage"))
		w.disks[0].Stop(1 << 40)
		w.steal(0)
		asks(t, h, path, body, 307, owner(1)) // fenced
		if len(h.Owns()) != 0 {
			t.Fatal(h.Owns())
		}
		h.Learn(api.View{Version: 2})
		asks(t, h, path, body, 307, owner(-1))
	}
}

// A fenced host names the host for the shard by its view, also where that is nobody.
func TestFencedWithoutHosts(t *testing.T) {
	w := lay(t, 1, 2, wText)
	h := w.alone(1)
	h.Learn(api.View{Version: 2})
	w.steal(0)
	asks(t, h, "/start", rightBody("/start", "f", "r"), 307, owner(-1))
	w = lay(t, 1, 2, wText)
	h = w.alone(1)
	h.Learn(api.View{Version: 2, Hosts: []int{0}})
	w.steal(0)
	asks(t, h, "/start", rightBody("/start", "f", "r"), 307, owner(0))
}

func TestFullShards(t *testing.T) {
	w := lay(t, 1, 1, "workflow w\na wait s")
	h := w.alone(0)
	for i := range api.MaxFlows {
		starts(t, h, fmt.Sprint("f", i), "w")
	}
	asks(t, h, "/start", rightBody("/start", "more", "r"), 429, refused("full"))
	asks(t, h, "/start", rightBody("/start", "f7", "r"), 409, refused("there"))
	asks(t, h, "/signal", object("flow", "f7", "name", "s"), 200, events(4))
	asks(t, h, "/query?flow=more", "", 404, refused("none"))
}

// Which of several faults is told: each ahead of all that come behind it.
func TestWhichFaultIsTold(t *testing.T) {
	w := lay(t, 1, 1, wText)
	h, unheld := w.alone(0), w.host(0)
	starts(t, h, "there", "w")
	asks(t, h, "/signal", object("flow", "there", "name", "z", "request", "known"), 200, events(3))
	long := strings.Repeat("x", 257)
	for i, x := range []struct {
		h            *host.Host
		method, path string
		body         string
		status       int
		want         string
	}{
		{unheld, "PUT", "/nothing", "no body", 404, refused("none")},
		{unheld, "PUT", "/start", "no body", 405, refused("method")},
		{unheld, "POST", "/query", "no body", 405, refused("method")},
		{unheld, "POST", "/start", "no body", 400, refused("form")},
		{unheld, "POST", "/start", `{"flow":5,"request":6,"flow":5}`, 400, refused("form")},
		{unheld, "POST", "/start", object("flow", "a b", "request", long), 400, refused("argument")},
		{unheld, "POST", "/start", object("flow", "a b", "def", "x", "request", 5), 400, refused("argument")},
		{unheld, "POST", "/signal", object("flow", "a b", "name", "s", "text", 5, "request", long), 400, refused("argument")},
		{unheld, "POST", "/start", object("flow", "a b", "def", "x", "request", long), 400, refused("name")},
		{unheld, "POST", "/start", object("flow", "there", "def", "x", "request", long), 413, refused("large")},
		{unheld, "POST", "/start", object("flow", "there", "def", "x", "request", "known"), 307, owner(-1)},
		{h, "POST", "/start", object("flow", "there", "def", "x", "request", long), 413, refused("large")},
		{h, "POST", "/start", object("flow", "there", "def", "x", "request", "known"), 200, events(3)},
		{h, "POST", "/start", object("flow", "there", "def", "x", "request", "new"), 404, refused("none")},
		{h, "POST", "/start", object("flow", "there", "def", "w", "request", "new"), 409, refused("there")},
		{h, "POST", "/signal", object("flow", "nobody", "name", "a b", "text", long), 404, refused("none")},
		{h, "POST", "/signal", object("flow", "there", "name", "a b", "text", long), 400, refused("name")},
		{h, "GET", "/query?flow=a b", "", 400, refused("name")},
		{unheld, "GET", "/query?flow=a b", "", 400, refused("name")},
		{unheld, "GET", "/query?flow=nobody", "", 307, owner(-1)},
		{h, "POST", "/poll", object("queue", 5), 400, refused("argument")},
		{unheld, "POST", "/poll", "[]", 400, refused("form")},
	} {
		w.disks[0].Stop(0) // what the disk refuses comes last
		if status, body := x.h.Request(x.method, x.path, x.body, now); status != x.status || body != x.want {
			t.Fatal(i, status, body)
		}
	}
}

// R1: no request, at whatever time, lets a host panic, and each has one of the answers that there are.
func TestRequestsOfAnyKind(t *testing.T) {
	w := lay(t, 1, 1, several()...)
	h := w.alone(0)
	met := map[int]int{}
	bodies := []string{"", "{}", "x"}
	for _, path := range everyPath() {
		for _, flow := range []string{"f0", "f1", ""} {
			bodies = append(bodies, rightBody(path, flow, "r"), strings.ReplaceAll(rightBody(path, flow, ""), `"w"`, `"t"`))
		}
	}
	for _, at := range []int{0, -1, math.MinInt, math.MaxInt, api.MaxTime, api.MaxTime + 1, 10} {
		for _, path := range append(everyPath(), "/query?flow=f0", "") {
			for _, body := range bodies {
				for _, method := range []string{"GET", "POST"} {
					status, answer := h.Request(method, path, body, at)
					met[status]++
					if !strings.HasPrefix(answer, "{") {
						t.Fatal(answer)
					}
				}
			}
			h.Pick(api.PickLoad, 0, 0, at)
			h.Pick(api.PickFire, 0, 0, at)
		}
	}
	if want := []int{200, 400, 404, 405, 409}; !slices.Equal(slices.Sorted(maps.Keys(met)), want) {
		t.Fatal(met)
	}
}
