package history_test

import (
	"fmt"
	"strings"
	"testing"

	"tiller/api"
	"tiller/history"
)

// P9.2

var (
	full  = strings.Repeat("t", api.MaxText)
	large = full + "t"
)

// everyKind are inputs of all kinds that there are, and of some that there are not.
func everyKind() []api.Input {
	list := []api.Input{start("f"), signal("s", ""), take("a"), complete("a", 1, ""), fail("a", 1, ""), fire("a", 1), fire("t", 0), child("c", api.Done, ""), cancel("")}
	for _, kind := range []int{-1 << 63, -1, 0, 9, 10, 99, 1<<63 - 1} {
		list = append(list, api.Input{Kind: kind, Node: "a", Name: "s", Try: 1})
	}
	return list
}

func known(in api.Input) bool { return in.Kind >= api.InStart && in.Kind <= api.InCancel }

// What all inputs are refused for comes ahead of what each is refused for.
func TestRefusalsOfAllInputs(t *testing.T) {
	lines := []string{"a activity q", "t timer 5", "c child v", "w wait s"}
	none := &flow{t: t, d: def(t, lines...)}
	closed := map[int]*flow{
		api.Broken:   begun(t, lines...).then(child("c", api.Broken, "")),
		api.Canceled: begun(t, lines...).then(cancel("")),
		api.Done:     begun(t, lines...).then(take("a"), complete("a", 1, ""), fire("t", 0), child("c", api.Done, ""), signal("s", "")),
	}
	for _, in := range everyKind() {
		for _, spoil := range []func(in *api.Input){
			func(in *api.Input) {},
			func(in *api.Input) { in.Text = large },
			func(in *api.Input) { in.Name, in.Node, in.Try = "", "nobody", 9 },
		} {
			in := in
			spoil(&in)
			if in.Kind != api.InStart {
				none.must(in, "ErrNone")
			}
			for status, f := range closed {
				want := "ErrClosed"
				if in.Kind == api.InStart {
					want = "ErrThere"
				}
				if f.must(in, want); f.s.Status != status {
					t.Fatalf("%+v", f.s)
				}
			}
			if !known(in) {
				begun(t, lines...).must(in, "ErrArg")
			}
		}
	}
	begun(t, lines...).must(start("f"), "ErrThere").must(start("g"), "ErrThere")
}

// A start is not looked at otherwise: the name may be any.
func TestStart(t *testing.T) {
	d := def(t, "a wait s")
	for _, name := range []string{"", "f", "f/g", "no name", large} {
		f := &flow{t: t, d: d}
		f.must(start(name), "Started; Awaited a")
		if f.s.ID != name || f.s.Def != "w" || f.s.Parent != "" || f.s.ParentNode != "" || f.s.Events != 2 {
			t.Fatalf("%+v", f.s)
		}
	}
	// The state's name is the input's, whatever it was.
	f := &flow{t: t, d: d, s: api.State{ID: "other"}}
	f.must(start("f"), "Started; Awaited a")
	if f.s.ID != "f" {
		t.Fatalf("%+v", f.s)
	}
	in := startUnder("f", "p", "a") // the Node of a Started is the parent's
	in.Text, in.Node, in.Try, in.Status = large, "a", 3, api.Done
	(&flow{t: t, d: d}).must(in, `Started a "p"; Awaited a`)
}

func TestSignal(t *testing.T) {
	f := begun(t, "a activity q", "b wait s", "c wait s", "d wait r after a")
	for _, name := range []string{"", "s/t", "s t", "s\n", "é", strings.Repeat("n", 65)} {
		f.must(signal(name, ""), "ErrName")
		f.must(signal(name, large), "ErrName")
	}
	f.must(signal("s", large), "ErrLarge")
	f.must(signal("other", large), "ErrLarge")
	long := strings.Repeat("n", 64)
	f.again().must(signal(long, full), fmt.Sprintf("Kept %s %q", long, full))
	f.again().must(signal("s", full), fmt.Sprintf("Received b %q", full))
	f.must(signal("r", "early"), `Kept r "early"`) // d is Idle yet
	f.must(signal("a", "1"), `Kept a "1"`)         // the name of a node that is no Wait
	f.must(signal("b", "2"), `Kept b "2"`)         // the name of a Wait, not its signal
	f.must(signal("s", "first"), `Received b "first"`)
	f.must(signal("s", "second"), `Received c "second"`)
	f.must(signal("s", "third"), `Kept s "third"`)
	f.then(take("a")).must(complete("a", 1, ""), `Completed a; Received d "early" #1; Closed "early" #2`)
	if got := fmt.Sprint(f.s.Signals); got != "[{a 1} {b 2} {s third}]" {
		t.Fatal(got)
	}
}

// The first Wait is the first of the definition, not the one that waited longest.
func TestSignalGoesToTheFirstWait(t *testing.T) {
	f := begun(t, "b wait s after a", "c wait s", "a activity q")
	f.then(take("a"), complete("a", 1, ""))
	f.must(signal("s", "1"), `Received b "1"`)
	f.must(signal("s", "2"), `Received c "2"; Closed #2`)
}

func TestSignalsThatAreTooMany(t *testing.T) {
	for _, names := range [][]string{{"x"}, {"x", "y", "z"}} {
		f := begun(t, "a wait s", "b activity q", "c wait x after b")
		for i := range api.MaxSignals {
			name := names[i%len(names)]
			f.must(signal(name, fmt.Sprint(i)), fmt.Sprintf("Kept %s %q", name, fmt.Sprint(i)))
		}
		for _, name := range []string{"x", "other"} {
			f.must(signal(name, ""), "ErrFull")
			f.must(signal(name, large), "ErrLarge")
		}
		f.must(signal("", ""), "ErrName")
		f.must(signal("s", "not kept"), `Received a "not kept"`) // one that is waited for needs no room
		f.must(signal("s", "one more"), "ErrFull")
		if len(f.s.Signals) != api.MaxSignals {
			t.Fatal(len(f.s.Signals))
		}
	}
	// What is received makes room.
	f := begun(t, "a activity q", "b wait x after a", "c wait s")
	for i := range api.MaxSignals {
		f.then(signal("x", fmt.Sprint(i)))
	}
	f.then(take("a")).must(complete("a", 1, ""), `Completed a; Received b "0" #1`)
	f.must(signal("x", "new"), `Kept x "new"`)
	f.must(signal("x", "more"), "ErrFull")
}

func TestTake(t *testing.T) {
	f := begun(t, "a activity q tries 2", "b activity q after a", "t timer 1", "c child v", "w wait s", "x send f s")
	for _, node := range []string{"", "nobody", "q", "t", "c", "w", "x"} {
		f.must(take(node), "ErrNone")
	}
	f.must(take("b"), "ErrState") // Idle
	in := take("a")
	in.Text, in.Try, in.Name = large, 7, "/" // nothing looks at these
	f.must(in, "Taken a #1")
	f.must(take("a"), "ErrState") // Busy
	f.then(fail("a", 1, "")).must(take("a"), "Taken a #2")
	f.then(complete("a", 2, "")).must(take("a"), "ErrState") // Over
	f.must(take("b"), "Taken b #1")
}

// Is Delay above 0, an alarm comes with each try.
func TestTakeWithATimeout(t *testing.T) {
	f := begun(t, "a activity q tries 3 timeout 5", "b activity q timeout 1000000", "c activity q timeout 0")
	f.must(at(take("a"), 0), "Taken a #1; Alarm a #1 @5")
	f.then(fail("a", 1, "")).must(at(take("a"), 7), "Taken a #2; Alarm a #2 @12")
	f.must(at(take("b"), api.MaxTime), fmt.Sprintf("Taken b #1; Alarm b #1 @%d", api.MaxTime+api.MaxDelay))
	f.must(at(take("c"), 9), "Taken c #1")
}

// trying are the inputs that end a try, and how they look.
func trying() map[string]func(node string, try int, text string) api.Input {
	return map[string]func(node string, try int, text string) api.Input{"complete": complete, "fail": fail}
}

func TestRefusalsOfCompleteAndFail(t *testing.T) {
	for _, in := range trying() {
		f := begun(t, "a activity q tries 3", "b activity q after a", "t timer 1", "c child v", "w wait s", "x send f s")
		for _, node := range []string{"", "nobody", "q", "t", "c", "w", "x"} {
			f.must(in(node, 0, ""), "ErrNone")
			f.must(in(node, 0, large), "ErrNone")
		}
		for _, try := range []int{0, 1} { // Ready; Idle
			f.must(in("a", try, ""), "ErrState")
			f.must(in("a", try, large), "ErrState")
			f.must(in("b", try, ""), "ErrState")
		}
		f.then(take("a"))
		for _, try := range []int{-1, 0, 2, 3, 1 << 62} {
			f.must(in("a", try, ""), "ErrState")
			f.must(in("a", try, large), "ErrState")
		}
		f.must(in("a", 1, large), "ErrLarge")
		f.again().then(in("a", 1, full))
		f.then(fail("a", 1, ""))
		f.must(in("a", 1, ""), "ErrState") // Ready again, for its second try
		f.must(in("a", 2, ""), "ErrState")
		f.then(take("a"))
		f.must(in("a", 1, ""), "ErrState") // a try that is over
		f.must(in("a", 1, large), "ErrState")
		f.again().then(in("a", 2, ""))
		f.then(complete("a", 2, "done"))
		f.must(in("a", 2, ""), "ErrState")
		f.must(in("a", 2, large), "ErrState")
	}
}

func TestCompleteAndGoOn(t *testing.T) {
	f := begun(t, "a activity q", "b timer 3 after a", "c activity r after a", "d activity r after b c")
	f.then(take("a"))
	f.must(at(complete("a", 1, full), 50), fmt.Sprintf("Completed a %q; TimerSet b #53; Scheduled c; Alarm b @53; Dispatch c #1", full))
	f.then(take("c")).must(complete("c", 1, "C"), `Completed c "C"`)
	f.must(fire("b", 0), "Fired b; Scheduled d; Dispatch d #1")
	f.then(take("d")).must(complete("d", 1, ""), "Completed d; Closed #2")
}

// Of one try the first failing is the last; of more only the last one.
func TestTries(t *testing.T) {
	for tries := 1; tries <= api.MaxTries; tries++ {
		for _, by := range []string{"fail", "fire"} {
			f := begun(t, fmt.Sprint("a activity q tries ", tries, " timeout 9"), "b wait s after a", "c wait s")
			for try := 1; try <= tries; try++ {
				f.must(take("a"), fmt.Sprintf("Taken a #%d; Alarm a #%d @109", try, try))
				in, text := fail("a", try, fmt.Sprint("no", try)), fmt.Sprint("no", try)
				if by == "fire" {
					in, text = fire("a", try), "timeout"
				}
				if f.again().then(complete("a", try, "yes")); try < tries {
					f.must(in, fmt.Sprintf("Retried a %q #%d; Dispatch a #%d", text, try, try+1))
				} else {
					f.must(in, fmt.Sprintf("Failed a %q; Closed %q #3", text, text))
				}
			}
			if n := f.s.Nodes; n[0].Status != api.Bad || n[0].Try != tries || n[1].Status != api.Idle || n[2].Status != api.Busy || f.s.Status != api.Broken {
				t.Fatalf("%+v", f.s)
			}
		}
	}
	f := begun(t, "a activity q").then(take("a"))
	f.must(fail("a", 1, full), fmt.Sprintf("Failed a %q; Closed %q #3", full, full))
}

func TestFire(t *testing.T) {
	f := begun(t, "a activity q tries 2 timeout 5", "b activity q tries 2", "t timer 5", "c child v", "w wait s", "x send f s", "u timer 1 after w")
	for _, node := range []string{"", "nobody", "c", "w", "x"} {
		f.must(fire(node, 0), "ErrNone")
	}
	f.must(fire("a", 0), "ErrState") // Ready
	f.must(fire("a", 1), "ErrState")
	f.must(fire("u", 0), "ErrState") // Idle
	f.then(take("a"), take("b"))
	for _, try := range []int{-1, 0, 2} {
		f.must(fire("a", try), "ErrState")
	}
	in := fire("a", 1)
	in.Text = large // a text that is not looked at is not too large
	f.must(in, `Retried a "timeout" #1; Dispatch a #2`)
	f.must(fire("a", 1), "ErrState")
	f.then(take("a")).must(fire("a", 1), "ErrState")
	f.again().must(fire("a", 2), `Failed a "timeout"; Closed "timeout" #3; Message cancel to=f/c from=f node=c name= "timeout" #0`)
	f.must(fire("b", 1), `Retried b "timeout" #1; Dispatch b #2`) // nothing says that it needs a Delay
	for _, try := range []int{0, 5, -1} {                         // a Timer has no tries
		in := at(fire("t", try), 0)
		in.Text = large
		f.again().must(in, "Fired t")
	}
	f.then(fire("t", 0)).must(fire("t", 0), "ErrState")
	f.then(complete("a", 2, "")).must(fire("a", 2), "ErrState")
}

func TestChild(t *testing.T) {
	f := begun(t, "c child v", "d child v after c", "a activity q", "t timer 1", "w wait s", "x send f s")
	for _, node := range []string{"", "nobody", "v", "f/c", "a", "t", "w", "x"} {
		for _, status := range []int{0, api.Done, api.Broken} {
			f.must(child(node, status, large), "ErrNone")
		}
	}
	f.must(child("d", api.Done, ""), "ErrState") // Idle
	f.must(child("d", api.Broken, large), "ErrState")
	for _, status := range []int{-1, 0, api.Running, api.Broken, api.Canceled, 5} {
		f.again().must(child("c", status, "why"), `Failed c "why"; Closed "why" #3`)
		f.again().must(child("c", status, ""), `Failed c; Closed #3`)
	}
	f.again().must(child("c", api.Done, large), fmt.Sprintf(`ChildDone c %q; ChildAsked d; Message start to=f/d from=f node=d name=v "" #0`, large)) // nothing says that it may be too large
	in := child("c", api.Done, "born")
	in.Try = 9
	f.must(in, `ChildDone c "born"; ChildAsked d; Message start to=f/d from=f node=d name=v "" #0`)
	f.must(child("c", api.Done, ""), "ErrState")
	f.must(child("c", api.Broken, ""), "ErrState")
	f.must(child("d", api.Canceled, "why"), `Failed d "why"; Closed "why" #3`)
}

func TestCancel(t *testing.T) {
	f := begun(t, "a activity q", "w wait s", "t timer 5")
	f.must(cancel(large), "ErrLarge")
	f.again().must(cancel(""), "Closed #4")
	in := cancel(full)
	in.Node, in.Name, in.Try, in.Status = "nobody", "/", 7, api.Done
	f.must(in, fmt.Sprintf("Closed %q #4", full))
	if f.s.Status != api.Canceled || f.s.Text != full || f.s.Nodes[1].Status != api.Busy {
		t.Fatalf("%+v", f.s)
	}
	f.must(cancel(""), "ErrClosed")
	f.must(cancel(large), "ErrClosed")
}

// P9.3

// Each time the first node that may begin does, not the one that may since longest.
func TestGoOnBeginsWithTheFirst(t *testing.T) {
	f := &flow{t: t, d: def(t, "e send x s after d", "b timer 1 after c", "a activity q", "c send y s", "d wait s after c")}
	f.must(start("f"), `Started; Scheduled a; Sent c; TimerSet b #101; Awaited d; Dispatch a #1; Message signal to=y from=f node=c name=s "" #0; Alarm b @101`)
	f.must(at(signal("s", "hi"), 200), `Received d "hi"; Sent e; Message signal to=x from=f node=e name=s "" #0`)
}

// A row of sends, forwards and backwards, is over at once.
func TestSendsInARow(t *testing.T) {
	f := &flow{t: t, d: def(t, "a send x s", "b send x/y r after a", "c send f/c q after b")}
	f.must(start("f"), `Started; Sent a; Sent b; Sent c; Closed #2; Message signal to=x from=f node=a name=s "" #0; Message signal to=x/y from=f node=b name=r "" #0; Message signal to=f/c from=f node=c name=q "" #0`)
	f = &flow{t: t, d: def(t, "a send x s after b", "b send x s after c", "c send x s")}
	f.must(startUnder("f", "p", "n"), `Started n "p"; Sent c; Sent b; Sent a; Closed #2; Message signal to=x from=f node=c name=s "" #0; Message signal to=x from=f node=b name=s "" #0; Message signal to=x from=f node=a name=s "" #0; Message child to=p from=f node=n name= "" #2`)
	var lines []string
	for i := range api.MaxNodes {
		lines = append(lines, fmt.Sprintf("n%d send x s after n%d", i, i+1))
	}
	lines[api.MaxNodes-1] = fmt.Sprintf("n%d send x s", api.MaxNodes-1)
	f = begun(t, lines...)
	if f.s.Status != api.Done || f.s.Events != 2+api.MaxNodes || history.Count(f.s) != api.MaxNodes {
		t.Fatalf("%+v", f.s)
	}
}

func TestTimers(t *testing.T) {
	for _, time := range []int{0, 1, api.MaxTime} {
		for _, delay := range []int{0, 1, api.MaxDelay} {
			f := &flow{t: t, d: def(t, fmt.Sprint("a timer ", delay), "b timer 7 after a")}
			alarm := func(node string, when int) string {
				if when == 0 {
					return fmt.Sprintf("TimerSet %s; Alarm %s", node, node)
				}
				return fmt.Sprintf("TimerSet %s #%d; Alarm %s @%d", node, when, node, when)
			}
			f.must(at(start("f"), time), "Started; "+alarm("a", time+delay))
			f.must(at(fire("a", 0), time), "Fired a; "+alarm("b", time+7))
			f.must(at(fire("b", 0), time), "Fired b; Closed #2")
		}
	}
}

// A child's name may have MaxText bytes, and not one more.
func TestNamesOfChildren(t *testing.T) {
	for _, node := range []string{"c", strings.Repeat("c", 64)} {
		fits := strings.Repeat("f", api.MaxText-1-len(node))
		d := def(t, "w wait s", node+" child v", "z child v", "a activity q after w")
		f := &flow{t: t, d: d}
		want := fmt.Sprintf(`Started; Awaited w; ChildAsked %s; ChildAsked z; Message start to=%s/%s from=%s node=%s name=v "" #0; Message start to=%s/z from=%s node=z name=v "" #0`, node, fits, node, fits, node, fits, fits)
		f.must(start(fits), want)
		f = &flow{t: t, d: d}
		f.must(startUnder(fits+"f", "p", "n"), fmt.Sprintf(`Started n "p"; Awaited w; Failed %s "long"; Closed "long" #3; Message child to=p from=%s node=n name= "long" #3`, node, fits+"f"))
		if n := f.s.Nodes; n[1] != (api.NodeState{Status: api.Bad, Text: "long"}) || n[2].Status != api.Idle || f.s.Text != "long" {
			t.Fatalf("%+v", f.s)
		}
	}
	// It breaks what is under way, too: the tasks that were there ahead of it stay.
	long := strings.Repeat("f", api.MaxText-2)
	f := &flow{t: t, d: def(t, "b child v", "a activity q", "cc child v after a")}
	f.then(start(long), take("a"))
	f.must(complete("a", 1, "A"), fmt.Sprintf(`Completed a "A"; Failed cc "long"; Closed "long" #3; Message cancel to=%s/b from=%s node=b name= "long" #0`, long, long))
	f = &flow{t: t, d: def(t, "x send y s", "a activity q", "cc child v")}
	f.must(start(long), fmt.Sprintf(`Started; Sent x; Scheduled a; Failed cc "long"; Closed "long" #3; Message signal to=y from=%s node=x name=s "" #0; Dispatch a #1`, long))
}

func TestWaitsWhoseSignalIsKept(t *testing.T) {
	f := begun(t, "a activity q", "b wait s after a", "c wait s after a", "d wait s after a", "e wait r after a")
	f.then(signal("r", "R"), signal("s", "1"), signal("s", "2"), signal("other", "O"), take("a"))
	f.again().must(complete("a", 1, ""), `Completed a; Received b "1" #1; Received c "2" #1; Awaited d; Received e "R" #1`)
	f.then(signal("s", "3"), signal("s", "4")).must(complete("a", 1, ""), `Completed a; Received b "1" #1; Received c "2" #1; Received d "3" #1; Received e "R" #1; Closed "R" #2`)
	if got := fmt.Sprint(f.s.Signals); got != "[{other O} {s 4}]" {
		t.Fatal(got)
	}
}

// It is the definition's last node whose text counts, whichever was over last; of a Timer or a Send it is empty.
func TestDoneWithTheLastText(t *testing.T) {
	f := begun(t, "a activity q", "b activity q").then(take("a"), take("b"), complete("b", 1, "B"))
	f.must(complete("a", 1, "A"), `Completed a "A"; Closed "B" #2`)
	f = begun(t, "a activity q", "x send y s after a").then(take("a"))
	f.must(complete("a", 1, "A"), `Completed a "A"; Sent x; Closed #2; Message signal to=y from=f node=x name=s "" #0`)
	f = begun(t, "z child v after a", "a wait s").then(signal("s", "S"))
	f.must(child("z", api.Done, "Z"), `ChildDone z "Z"; Closed "S" #2`)
}

// P9.4

func TestClosingWithChildren(t *testing.T) {
	lines := []string{"d child v", "a activity q", "b child u", "c child v after a", "e child v"}
	cancels := func(nodes, text string) string {
		out := ""
		for _, node := range strings.Fields(nodes) {
			out += fmt.Sprintf("; Message cancel to=f/%s from=f node=%s name= %q #0", node, node, text)
		}
		return out
	}
	for _, x := range []struct{ parent, node, told string }{
		{"", "", ""},
		{"", "n", ""}, // a node without a parent is none
		{"p/q", "n", "; Message child to=p/q from=f node=n name= %q #%d"},
		{"p/q", "", "; Message child to=p/q from=f node= name= %q #%d"},
	} {
		parent := func(text string, status int) string {
			if x.told == "" {
				return ""
			}
			return fmt.Sprintf(x.told, text, status)
		}
		f := (&flow{t: t, d: def(t, lines...)}).then(startUnder("f", x.parent, x.node))
		f.again().must(cancel("end"), `Closed "end" #4`+cancels("d b e", "end")+parent("end", 4))
		f.again().must(child("b", api.Broken, "bad"), `Failed b "bad"; Closed "bad" #3`+cancels("d e", "bad")+parent("bad", 3))
		f.then(child("b", api.Done, "")).again().must(cancel(""), `Closed #4`+cancels("d e", "")+parent("", 4))
		f.then(take("a")).again().must(fail("a", 1, "no"), `Failed a "no"; Closed "no" #3`+cancels("d e", "no")+parent("no", 3))
		f.again().must(fire("a", 1), `Failed a "timeout"; Closed "timeout" #3`+cancels("d e", "timeout")+parent("timeout", 3))
		f.then(complete("a", 1, "")).again().must(cancel("x"), `Closed "x" #4`+cancels("d c e", "x")+parent("x", 4))
		f.then(child("d", api.Done, ""), child("c", api.Done, "")).must(child("e", api.Done, "last"), `ChildDone e "last"; Closed "last" #2`+parent("last", 2))
	}
}
