package engine_test

import (
	"fmt"
	"testing"

	"tiller/api"
)

// act is an entry of a script; of a request its path and body stand beside it.
type act struct {
	e          api.Entry
	path, body string
}

// asking is a request to host 0.
func asking(path, body string) act {
	return act{api.Entry{Kind: api.EvRequest, Bytes: bytesOf(path, body)}, path, body}
}

// picking is a pick of host 0.
func picking(what, shard, n int) act {
	return act{e: api.Entry{Kind: api.EvPick, What: what, Shard: shard, N: n}}
}

// ticking lets time pass.
func ticking(n int) act { return act{e: api.Entry{Kind: api.EvTick, N: n}} }

// held are the entries by which host 0 holds all.
func held(shards, version int) []act {
	l := []act{{e: api.Entry{Kind: api.EvView, View: api.View{Version: version, Hosts: []int{0}}}}}
	for n := range shards {
		l = append(l, picking(api.PickOwn, n, 0))
	}
	return l
}

// scene is something that is done, behind what it needs.
type scene struct {
	name  string
	ahead []act
	does  act
	shard int // whose disk it needs
}

// scenes are one of each kind of batch.
func scenes() []scene {
	f, g := flowOf(0, 2, 0), flowOf(1, 2, 0)
	start := func(flow, def string) act { return asking("/start", object("flow", flow, "def", def, "request", "r0")) }
	poll := asking("/poll", object("queue", "q"))
	load := picking(api.PickLoad, 0, 15)
	mail := picking(api.PickMail, 0, 1)
	deliver := act{e: api.Entry{Kind: api.EvDeliver}}
	return []scene{
		{"own", nil, picking(api.PickOwn, 0, 0), 0},
		{"lease", nil, picking(api.PickOwn, 0, 0), -1},
		{"start", held(2, 1), start(f, "w"), 0},
		{"start of a parent", held(2, 1), start(f, "p"), 0},
		{"signal", append(held(2, 1), start(f, "w")), asking("/signal", object("flow", f, "name", "s", "text", "x", "request", "r1")), 0},
		{"poll", append(held(2, 1), start(f, "t"), load), poll, 0},
		{"complete", append(held(2, 1), start(f, "w"), load, poll), asking("/complete", object("flow", f, "node", "a", "try", 1)), 0},
		{"fail", append(held(2, 1), start(f, "w"), load, poll), asking("/fail", object("flow", f, "node", "a", "try", 1)), 0},
		{"cancel", append(held(2, 1), start(f, "p")), asking("/cancel", object("flow", f, "text", "c")), 0},
		{"ack", append(held(2, 1), start(f, "w"), load, poll), picking(api.PickAck, 0, 0), 0},
		{"fire", append(held(2, 1), start(f, "t"), ticking(9)), picking(api.PickFire, 0, 0), 0},
		{"fire in vain", append(held(2, 1), start(f, "t"), ticking(9), asking("/cancel", object("flow", f))), picking(api.PickFire, 0, 0), 0},
		{"mail", append(held(2, 1), start(g, "w"), start(f, "s"), mail), deliver, 1},
		{"mail in vain", append(held(2, 1), start(f, "s"), mail), deliver, 1},
		{"acknowledgement", append(held(2, 1), start(g, "w"), start(f, "s"), mail, deliver), deliver, 0},
		{"release", append(held(2, 1), act{e: api.Entry{Kind: api.EvView, View: api.View{Version: 2}}}), picking(api.PickOwn, 0, 0), -1},
	}
}

// sceneConfig is what scenes are played in.
func sceneConfig(t testing.TB) api.Config {
	g := flowOf(1, 2, 0)
	return config(t, 2, 2, wText, "workflow t\na timer 3\nb activity q timeout 5", "workflow p\na child w\nb child none\nc send "+g+" s", "workflow s\na send "+g+" s\nb wait s")
}

// play does acts before a judge.
func (j *judge) play(l ...act) {
	j.t.Helper()
	for _, a := range l {
		j.does(a.e, a.path, a.body)
	}
}

// P15.8, W4: a disk that fails or stops at any operation of anything that is done, and crashes then with any tail: all that was OK is there, whole, and what was refused is there whole or not at all. Then all goes on.
func TestDiskCrashAtAnyOperation(t *testing.T) {
	met := map[string]int{}
	for _, s := range scenes() {
		for at := range 9 {
			for kind := range 4 {
				for cut := range 6 {
					j := newJudge(t, sceneConfig(t), met)
					j.story = append(j.story, fmt.Sprint(s.name, " at ", at, " kind ", kind, " cut ", cut))
					if s.ahead == nil {
						j.play(held(2, 1)[0])
					}
					j.play(s.ahead...)
					trouble := api.Entry{Kind: api.EvFail, Shard: s.shard, N: at, Kind2: kind}
					if kind == 3 {
						trouble = api.Entry{Kind: api.EvStop, Shard: s.shard, N: at}
					}
					j.play(act{e: trouble}, s.does, s.does)
					lose := api.Entry{Kind: api.EvLose, Shard: s.shard}
					d := j.x.Disk(s.shard)
					for _, f := range d.Files() {
						u := len(d.Read(f)) - d.Kept(f)
						lose.Cuts = append(lose.Cuts, []int{0, 1, 2*u - 1, 2 * u, u, u + 1}[cut])
					}
					j.play(act{e: lose})
					owns := j.x.Host(0).Owns()
					if s.shard < 0 && len(owns) != 0 || s.shard >= 0 && len(owns) > 0 && owns[0] == s.shard {
						j.fails("what is held", owns)
					}
					j.shaky = false // no fault waits on a disk that has crashed
					j.play(held(2, 3)...)
					j.play(s.does, asking("/start", object("flow", flowOf(max(0, s.shard), 2, 7), "def", "w")))
					if state(t, j.x, flowOf(max(0, s.shard), 2, 7)).Events != 2 {
						j.fails("it doesn't go on")
					}
					folds(t, j.x, j.s.c)
				}
			}
		}
	}
	for _, kind := range []string{"/start503", "/signal503", "/poll503", "/complete503", "/fail503", "/cancel503", "fire3", "fire4", "mail"} {
		if met[kind] == 0 {
			t.Error("never met:", kind)
		}
	}
}

// P15.8, W4: several batches are refused one behind the other, then the disk crashes: all that was OK is there, and at most one of the others.
func TestDiskCrashBehindSeveral(t *testing.T) {
	f := flowOf(0, 2, 0)
	for stop := range 12 {
		for cut := range 40 {
			j := newJudge(t, sceneConfig(t), map[string]int{})
			j.story = append(j.story, fmt.Sprint("stop ", stop, " cut ", cut))
			j.play(held(2, 1)...)
			j.play(asking("/start", object("flow", f, "def", "w")), act{e: api.Entry{Kind: api.EvStop, N: stop}})
			for k := range 5 {
				j.play(asking("/signal", object("flow", f, "name", "s", "text", fmt.Sprint(k), "request", fmt.Sprint("r", k))))
				j.play(asking("/start", object("flow", flowOf(0, 2, 1+k), "def", "w")))
			}
			j.play(act{e: api.Entry{Kind: api.EvLose, Cuts: []int{cut, cut * 7, cut * 31}}})
			j.play(held(2, 2)...)
			for k := range 5 { // what was answered is answered again as it was
				j.play(asking("/signal", object("flow", f, "name", "s", "text", fmt.Sprint(k), "request", fmt.Sprint("r", k))))
			}
			if s := state(t, j.x, f); len(s.Signals) != 5 {
				j.fails(s)
			}
		}
	}
}

// W1, W4: a host that crashes anywhere between any two entries: whoever comes next goes on from there.
func TestHostCrashAnywhere(t *testing.T) {
	f := flowOf(0, 2, 0)
	whole := []act{
		asking("/start", object("flow", f, "def", "p", "request", "r")),
		picking(api.PickMail, 0, 0), picking(api.PickMail, 0, 1), {e: api.Entry{Kind: api.EvDeliver}}, {e: api.Entry{Kind: api.EvDeliver}}, {e: api.Entry{Kind: api.EvDeliver}}, {e: api.Entry{Kind: api.EvDeliver}},
		picking(api.PickLoad, 0, 15), picking(api.PickLoad, 1, 15), asking("/poll", object("queue", "q")), picking(api.PickAck, 0, 0), picking(api.PickAck, 1, 0),
		asking("/cancel", object("flow", f, "request", "c")), picking(api.PickMail, 0, 0), picking(api.PickMail, 0, 1), {e: api.Entry{Kind: api.EvDeliver}}, {e: api.Entry{Kind: api.EvDeliver, N: 1}},
	}
	for at := range len(whole) + 1 {
		for other := range 2 {
			j := newJudge(t, sceneConfig(t), map[string]int{})
			j.story = append(j.story, fmt.Sprint("crash at ", at))
			j.play(held(2, 1)...)
			j.play(whole[:at]...)
			was := fmt.Sprint(shardTold(j.x.Exec(0), 2), shardTold(j.x.Exec(1), 2))
			j.play(act{e: api.Entry{Kind: api.EvCrash}})
			if other == 0 {
				j.play(act{e: api.Entry{Kind: api.EvStart}})
			}
			if other == 1 && j.x.Host(0) != nil {
				j.fails("it is up")
			}
			i := other
			j.play(act{e: api.Entry{Kind: api.EvView, Host: i, View: api.View{Version: 2, Hosts: []int{i}}}})
			for n := range 2 {
				j.play(act{e: api.Entry{Kind: api.EvPick, Host: i, What: api.PickOwn, Shard: n}})
			}
			if is := fmt.Sprint(shardTold(j.x.Exec(0), 2), shardTold(j.x.Exec(1), 2)); is != was {
				j.fails(is, was)
			}
			for _, a := range append(whole[:1:1], whole...) {
				a.e.Host = i
				j.play(a)
			}
			for n := range 2 {
				if l, _ := j.x.Leases().Get(n); l.Range != 2 || l.Owner != j.x.Incarnation(i) || j.x.Store(n).Fence() != 2 {
					j.fails(l)
				}
			}
			for k := 0; !j.x.Still(); k++ {
				j.x.Round()
				asked(t, j.x, i, "/poll", object("queue", "none")) // it finishes what is stale
				if k > 100 {
					j.fails("it doesn't come to rest")
				}
			}
			for _, flow := range j.x.Flows() {
				if s := state(t, j.x, flow); s.Status == api.Running {
					j.fails(flow, s)
				}
			}
		}
	}
}
