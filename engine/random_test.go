package engine_test

import (
	"fmt"
	"slices"
	"strings"
	"testing"

	"tiller/api"
	"tiller/engine"
)

// twins are a cluster and a model: what is done to one is done to the other.
type twins struct {
	t     *testing.T
	a     *author
	x     *engine.Cluster
	m     *model
	apart bool // many of the entries the hosts do by themselves
	story []string
	met   map[string]int
}

// newTwins are new ones.
func newTwins(t *testing.T, seed int64, met map[string]int) *twins {
	a := newAuthor(t, seed)
	x, _ := engine.New(a.c)
	return &twins{t: t, a: a, x: x, m: newModel(a.c), met: met, story: []string{fmt.Sprint("seed ", seed)}}
}

// fails tells the story.
func (w *twins) fails(got, want any) {
	w.t.Helper()
	w.t.Fatalf("%s\nis %v\nnot %v", strings.Join(w.story, "\n"), got, want)
}

// does does an entry with both.
func (w *twins) does(e api.Entry) []byte {
	w.t.Helper()
	w.story = append(w.story, line(e))
	do := w.x.Do
	if w.apart && w.a.r.Intn(4) > 0 {
		w.story = append(w.story, "  by itself")
		do = func(e api.Entry) ([]byte, api.Errno) { return itself(w.x, e) }
	}
	got, why := do(e)
	want, wantWhy := w.m.do(e)
	if string(got) != string(want) || why != wantWhy {
		w.fails(fmt.Sprint(string(got), why), fmt.Sprint(string(want), wantWhy))
	}
	w.met[fmt.Sprint(e.Kind, " ", why)]++
	return got
}

// standing: all that can be told must be alike.
func (w *twins) standing() {
	w.t.Helper()
	if got, want := w.x.Still(), w.m.still(); got != want {
		w.fails(got, want)
	}
	w.met[fmt.Sprint("still ", w.x.Still())]++
	if got, want := told(w.x), w.m.told(); got != want {
		w.fails(got, want)
	}
	var flows []string
	for n := range w.m.c.Shards {
		for f, s := range w.m.exec(n).All() {
			flows = append(flows, f)
			got, there := w.x.State(f)
			if !there || !alike(got, s) || !alike(w.x.Events(f), w.m.exec(n).Events(f)) {
				w.fails(got, s)
			}
		}
	}
	slices.Sort(flows)
	if !slices.Equal(w.x.Flows(), flows) {
		w.fails(w.x.Flows(), flows)
	}
}

// step does the next thing.
func (w *twins) step() {
	w.t.Helper()
	if w.a.r.Intn(12) == 0 {
		w.story = append(w.story, "round")
		if got, want := w.x.Round(), w.m.round(); got != want {
			w.fails(got, want)
		}
		return
	}
	e, path, _ := w.a.next(w.x)
	raw := w.does(e)
	if path != "" && len(raw) > 0 {
		status, body := reply(w.t, raw)
		w.a.heard(path, body, status)
		w.met[fmt.Sprint(strings.Split(path, "?")[0], " ", status)]++
	}
}

// P15.1 to P15.4: whatever the script, a cluster does and answers what the chapter says.
func TestClustersAreAsTheChapterSays(t *testing.T) {
	met := map[string]int{}
	for seed := range int64(300) {
		w := newTwins(t, seed, met)
		w.standing()
		for _, e := range w.a.begin() {
			w.does(e)
		}
		for k := range 250 {
			w.step()
			if k%5 == 0 {
				w.standing()
			}
		}
		w.standing()
		folds(t, w.x, w.a.c)
	}
	kinds := []string{"still true", "still false"}
	for kind, refusals := range map[int][]api.Errno{
		0: {api.ErrArg}, 13: {api.ErrArg}, api.EvRequest: {api.OK, api.ErrNone}, api.EvCrash: {api.OK, api.ErrNone}, api.EvStart: {api.OK, api.ErrThere, api.ErrNone}, api.EvView: {api.OK, api.ErrOrder, api.ErrNone},
		api.EvTick: {api.OK, api.ErrArg}, api.EvPick: {api.OK, api.ErrArg, api.ErrNone, api.ErrOwner, api.ErrFence, api.ErrIO, api.ErrDead}, api.EvDeliver: {api.OK, api.ErrNone}, api.EvDrop: {api.OK, api.ErrNone}, api.EvDouble: {api.OK, api.ErrNone},
		api.EvFail: {api.OK, api.ErrArg}, api.EvStop: {api.OK, api.ErrArg}, api.EvLose: {api.OK, api.ErrArg},
	} {
		for _, e := range refusals {
			kinds = append(kinds, fmt.Sprint(kind, " ", e))
		}
	}
	for _, path := range []string{"/start", "/signal", "/complete", "/fail", "/cancel"} {
		for _, status := range []int{200, 307, 404, 409} {
			kinds = append(kinds, fmt.Sprint(path, " ", status))
		}
	}
	kinds = append(kinds, "/poll 200", "/poll 404", "/poll 503", "/start 503", "/signal 503", "/cancel 503", "/query 200", "/query 307", "/query 404", "/start 413", "/start 400", "/nothing 404")
	for _, kind := range kinds {
		if met[kind] == 0 {
			t.Error("never met:", kind)
		}
	}
}
