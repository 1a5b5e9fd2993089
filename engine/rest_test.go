package engine_test

import (
	"fmt"
	"math/rand"
	"slices"
	"strings"
	"testing"

	"tiller/api"
	"tiller/engine"
)

// heal lets one host be up alone, with no faults, whatever was: all disks have crashed, so that none waits.
func heal(t *testing.T, x *engine.Cluster, c api.Config, version int) {
	t.Helper()
	for i := range c.Hosts {
		x.Do(api.Entry{Kind: api.EvCrash, Host: i})
	}
	for n := -1; n < c.Shards; n++ {
		does(t, x, api.Entry{Kind: api.EvLose, Shard: n}, api.OK)
	}
	does(t, x, api.Entry{Kind: api.EvStart}, api.OK)
	view(t, x, version, 0)
}

// finishes completes all that is taken, by whomever.
func finishes(t *testing.T, x *engine.Cluster, c api.Config) {
	t.Helper()
	for _, f := range x.Flows() {
		s := state(t, x, f)
		d := c.Defs[slices.IndexFunc(c.Defs, func(d api.Def) bool { return d.Name == s.Def })]
		for i, n := range d.Nodes {
			if s = state(t, x, f); s.Status == api.Running && n.Kind == api.Activity && s.Nodes[i].Status == api.Busy {
				if status, body := asked(t, x, 0, "/complete", object("flow", f, "node", n.Name, "try", s.Nodes[i].Try)); status != 200 {
					t.Fatal(f, n, s, status, body)
				}
			}
		}
	}
}

// rests lets it alone, but for polls and completions, till nothing changes any more: it must be Still then.
func rests(t *testing.T, x *engine.Cluster, c api.Config) {
	t.Helper()
	for k := 0; ; k++ {
		x.Round()
		worked := works(t, x, 0, "q") + works(t, x, 0, "p")
		finishes(t, x, c)
		if worked == 0 && x.Still() {
			break
		}
		if k > 1000 {
			t.Fatal("it doesn't come to rest")
		}
	}
	x.Round()
	if !x.Still() || works(t, x, 0, "q")+works(t, x, 0, "p") != 0 {
		t.Fatal("it doesn't stay at rest")
	}
}

// waits says whether a workflow that is at rest may be Running: it has an alarm, or a Busy Wait, or a child that may be (or that is not its own, since somebody else began it).
func waits(t *testing.T, x *engine.Cluster, c api.Config, flow string) bool {
	s := state(t, x, flow)
	d := c.Defs[slices.IndexFunc(c.Defs, func(d api.Def) bool { return d.Name == s.Def })]
	for n := range c.Shards {
		for _, a := range x.Exec(n).Alarms() {
			if a.Flow == flow {
				return true
			}
		}
	}
	for i, n := range d.Nodes {
		if s.Nodes[i].Status != api.Busy {
			continue
		}
		if n.Kind == api.Wait {
			return true
		}
		if child, there := x.State(flow + "/" + n.Name); n.Kind == api.Child && there && (child.Parent != flow || child.Status == api.Running && waits(t, x, c, flow+"/"+n.Name)) {
			return true
		}
	}
	return false
}

// P15.9, W5: from any state on, left alone with one host it comes to rest, and what waits for nothing is closed.
func TestItComesToRest(t *testing.T) {
	closed, running := 0, 0
	for seed := range int64(150) {
		a := newAuthor(t, seed+5000)
		a.calm = seed%5 == 0
		x, _ := engine.New(a.c)
		for _, e := range a.begin() {
			x.Do(e)
		}
		for k := range 300 {
			e, path, _ := a.next(x)
			if b, _ := x.Do(e); path != "" && len(b) > 0 {
				status, body := reply(t, b)
				a.heard(path, body, status)
			}
			if k%40 == 0 {
				x.Round()
			}
		}
		heal(t, x, a.c, a.version+10)
		rests(t, x, a.c)
		for range 5 { // time passes: nothing is left that waits for it
			does(t, x, api.Entry{Kind: api.EvTick, N: 50}, api.OK)
			rests(t, x, a.c)
		}
		for n := range a.c.Shards {
			if l := x.Exec(n).Alarms(); len(l) != 0 {
				t.Fatal(seed, l)
			}
		}
		folds(t, x, a.c)
		for _, f := range x.Flows() {
			switch s := state(t, x, f); {
			case s.Status != api.Running:
				closed++
			case !waits(t, x, a.c, f):
				t.Fatal(seed, f, s)
			default:
				running++
			}
		}
	}
	if closed < 500 || running < 50 {
		t.Error(closed, running)
	}
}

// tree is a workflow over several shards: a root, three children, two of each of these.
func tree() []string {
	return []string{"workflow root\na child mid\nb child mid\nc child mid after a\nz activity q after b c", "workflow mid\na child leaf\nb child leaf\nc activity q after a b", "workflow leaf\na activity q\nb timer 2 after a"}
}

// W3, W5: a tree of children over several shards, with parcels lost, doubled and in another order, and hosts that come and go: each workflow is begun once, ends once, and all is done.
func TestTreesInAStorm(t *testing.T) {
	for seed := range int64(30) {
		r := rand.New(rand.NewSource(seed))
		c := config(t, 12, 11, tree()...)
		j := newJudge(t, c, map[string]int{})
		j.story = append(j.story, fmt.Sprint("seed ", seed))
		version := 0
		views := func() {
			version++
			hosts := one(r, []int{0}, []int{10}, []int{0, 10}, []int{0, 10})
			for _, i := range []int{0, 10} {
				j.play(act{e: api.Entry{Kind: api.EvStart, Host: i}}, act{e: api.Entry{Kind: api.EvView, Host: i, View: api.View{Version: version, Hosts: hosts}}})
				for n := range c.Shards {
					j.play(act{e: api.Entry{Kind: api.EvPick, Host: i, What: api.PickOwn, Shard: n}})
				}
			}
		}
		views()
		began := false
		for k := range 500 {
			i := one(r, 0, 10)
			if !began {
				body := object("flow", "job", "def", "root", "request", "r")
				status, _ := j.does(api.Entry{Kind: api.EvRequest, Host: i, Bytes: bytesOf("/start", body)}, "/start", body)
				began = status == 200
				continue
			}
			switch r.Intn(20) {
			case 0:
				j.play(act{e: api.Entry{Kind: api.EvTick, N: 1}})
			case 1:
				j.play(act{e: api.Entry{Kind: one(r, api.EvDrop, api.EvDouble, api.EvDouble), N: r.Int()}})
			case 2:
				if k%3 == 0 {
					j.play(act{e: api.Entry{Kind: api.EvCrash, Host: i}})
					views()
				}
			case 3:
				n := r.Intn(c.Shards)
				j.play(act{e: api.Entry{Kind: api.EvPick, Host: i, What: api.PickLoad, Shard: n, N: 3}}, act{e: api.Entry{Kind: api.EvPick, Host: i, What: api.PickFire, Shard: n}})
				body := object("queue", "q")
				status, answer := j.does(api.Entry{Kind: api.EvRequest, Host: i, Bytes: bytesOf("/poll", body)}, "/poll", body)
				if status == 200 {
					j.does(api.Entry{Kind: api.EvRequest, Host: i, Bytes: bytesOf("/complete", answer)}, "/complete", answer)
				}
			case 4, 5, 6, 7, 8, 9, 10:
				for from := range c.Shards {
					for to := range c.Shards {
						if len(j.x.Exec(from).Outbox(to)) > 0 && r.Intn(2) == 0 {
							j.play(act{e: api.Entry{Kind: api.EvPick, Host: i, What: api.PickMail, Shard: from, N: to}})
						}
					}
				}
			default:
				j.play(act{e: api.Entry{Kind: api.EvDeliver, N: r.Int() - r.Int()}})
			}
		}
		heal(t, j.x, c, 1000)
		rests(t, j.x, c)
		for range 8 {
			does(t, j.x, api.Entry{Kind: api.EvTick, N: 2}, api.OK)
			rests(t, j.x, c)
		}
		if l := j.x.Flows(); len(l) != 1+3+6 {
			t.Fatal(seed, l)
		}
		for _, f := range j.x.Flows() {
			s := state(t, j.x, f)
			want := map[string]int{"root": 11, "mid": 9, "leaf": 7}[s.Def]
			if s.Status != api.Done || len(j.x.Events(f)) != want || (s.Parent == "") != (f == "job") || s.Parent != "" && !strings.HasPrefix(f, s.Parent+"/") {
				t.Fatal(seed, f, s, j.x.Events(f))
			}
		}
	}
}

// W5, example 10: a definition that asks for itself ends: a row when names get too long, a tree when the shards are full.
func TestDefinitionsThatAskForThemselves(t *testing.T) {
	for _, k := range []struct {
		text   string
		shards int
		most   int
		told   []string // what the last ones end with
	}{
		{"workflow w\na child w", 3, 128, []string{"long"}},
		{"workflow w\nnode-with-a-name-of-some-length child w", 1, 8, []string{"long"}},
		{"workflow w\na child w\nb child w", 1, 256, []string{"full", "long"}},
		{"workflow w\na child w\nb child w\nc child w", 2, 512, []string{"full", "long"}},
		{"workflow w\na child v", 2, 1, []string{"none"}},
	} {
		x := ready(t, k.shards, 1, k.text)
		starts(t, x, "f", "w")
		for many := 0; !x.Still(); many++ {
			if x.Round(); many > 5000 {
				t.Fatal(k.text, "doesn't come to rest")
			}
		}
		if l := x.Flows(); len(l) > k.most || len(l) < k.most*9/10 {
			t.Fatal(k.text, len(l))
		}
		for _, f := range x.Flows() {
			if s := state(t, x, f); s.Status != api.Broken && s.Status != api.Canceled || !slices.Contains(k.told, s.Text) {
				t.Fatal(k.text, f, s)
			}
		}
	}
}

// W5: a row of children over many shards, each of which is the next one's parent: the end is told all the way back.
func TestChains(t *testing.T) {
	texts := []string{"workflow w0\na activity q"}
	for k := 1; k < 20; k++ {
		texts = append(texts, fmt.Sprintf("workflow w%d\na child w%d", k, k-1))
	}
	for _, shards := range []int{1, 2, 7, 16} {
		x := ready(t, shards, 1, texts...)
		starts(t, x, "f", "w19")
		last := "f" + strings.Repeat("/a", 19)
		for k := 0; len(x.Flows()) < 20; k++ {
			if x.Round(); k > 30 {
				t.Fatal(x.Flows())
			}
		}
		x.Round()
		stillIs(t, x, true, "one is to be worked on")
		works(t, x, 0, "q")
		if s := state(t, x, last); s.Status != api.Done || x.Still() {
			t.Fatal(s)
		}
		rests(t, x, config(t, shards, 1, texts...))
		for _, f := range x.Flows() {
			if s := state(t, x, f); s.Status != api.Done || s.Text != "did" {
				t.Fatal(f, s)
			}
		}
	}
}

// W5: a cancel goes down all the way.
func TestCancelsGoDown(t *testing.T) {
	c := config(t, 5, 1, tree()...)
	x := ready(t, 5, 1, tree()...)
	starts(t, x, "job", "root")
	rounds(x, 5)
	asks(t, x, 0, "/cancel", object("flow", "job", "text", "enough"), 200, events(4))
	rests(t, x, c)
	if len(x.Flows()) != 1+2+4 {
		t.Fatal(x.Flows())
	}
	for _, f := range x.Flows() {
		if s := state(t, x, f); s.Status != api.Canceled || s.Text != "enough" {
			t.Fatal(f, s)
		}
	}
}
