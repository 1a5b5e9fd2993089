package host_test

import (
	"bytes"
	"slices"
	"testing"

	"tiller/api"
	"tiller/codec"
	"tiller/host"
)

// P14.4

// parcel is an envelope on its way.
func parcel(t testing.TB, e api.Envelope) api.Parcel {
	t.Helper()
	raw, why := codec.Envelope(e)
	if why != api.OK {
		t.Fatal(e, why)
	}
	return api.Parcel{Bytes: raw}
}

// handles hands a parcel in: no answer must come.
func handles(t testing.TB, h *host.Host, p api.Parcel) {
	t.Helper()
	if l := h.Handle(p, now); len(l) != 0 {
		t.Fatal(l)
	}
}

// acks hands a parcel in: an acknowledgement must come, from that host to that one.
func acks(t testing.TB, h *host.Host, p api.Parcel, from, to int, want api.Envelope) api.Parcel {
	t.Helper()
	l := h.Handle(p, now)
	if len(l) != 1 || l[0].From != from || l[0].To != to {
		t.Fatal(l)
	}
	want.Kind = api.EnvAck
	if e, _, why := codec.ReadEnvelope(l[0].Bytes); why != api.OK || e != want {
		t.Fatal(e, why)
	}
	return l[0]
}

// mailTown has two shards; a workflow of the first sends two signals to one of the second, which waits for both.
func mailTown(t testing.TB) (w *town, from, to string) {
	from, to = flowOf(0, 2, 0), flowOf(1, 2, 0)
	return lay(t, 2, 8, "workflow w\na send "+to+" s\nb send "+to+" z", "workflow v\na wait s\nb wait z"), from, to
}

func TestHandle(t *testing.T) {
	w, from, to := mailTown(t)
	h := w.alone(7)
	starts(t, h, to, "v")
	starts(t, h, from, "w")
	first := mails(t, h, 0, 1)
	first.From, first.To = 55, -3 // who sent it, and to whom, is nothing to it
	ack := acks(t, h, first, 7, 7, api.Envelope{From: 1, To: 0, Seq: 1})
	if s := w.state(to); s.Nodes[0].Status != api.Over || s.Nodes[1].Status != api.Busy || w.exec(1).Mark(0) != 1 {
		t.Fatal(s)
	}
	was := w.told()
	for range 3 { // it comes again: it is acknowledged again, and nothing is done
		acks(t, h, first, 7, 7, api.Envelope{From: 1, To: 0, Seq: 1})
	}
	if w.told() != was || len(w.exec(0).Outbox(1)) != 2 {
		t.Fatal(w.exec(0).Outbox(1))
	}
	handles(t, h, ack)
	if l := w.exec(0).Outbox(1); len(l) != 1 || l[0].Seq != 2 {
		t.Fatal(l)
	}
	was = w.told()
	handles(t, h, ack)                                                                        // it has nothing to do any more
	handles(t, h, parcel(t, api.Envelope{Kind: api.EnvAck, From: 1, To: 0, Seq: 3}))          // of what was never sent
	handles(t, h, parcel(t, api.Envelope{Kind: api.EnvAck, From: 9, To: 0, Seq: 1}))          // from no shard
	handles(t, h, parcel(t, api.Envelope{Kind: api.EnvMail, From: 0, To: 1, Seq: 3}))         // ahead of its turn
	handles(t, h, parcel(t, api.Envelope{Kind: api.EnvMail, From: 0, To: 2, Seq: 1}))         // to no shard
	handles(t, h, parcel(t, api.Envelope{Kind: api.EnvMail, From: 0, To: 15, Seq: 1}))        //
	handles(t, h, parcel(t, api.Envelope{Kind: api.EnvMail, From: 2, To: 1, Seq: 1}))         // from no shard
	handles(t, h, parcel(t, api.Envelope{Kind: api.EnvAck, From: 0, To: 7, Seq: 1}))          //
	handles(t, h, parcel(t, api.Envelope{Kind: api.EnvMail, From: 0, To: 1, Mail: mail(to)})) // without a number
	if w.told() != was {
		t.Fatal("something has changed")
	}
	acks(t, h, mails(t, h, 0, 1), 7, 7, api.Envelope{From: 1, To: 0, Seq: 2})
	if s := w.state(to); s.Status != api.Done {
		t.Fatal(s)
	}
}

func mail(to string) api.Mail { return api.Mail{Kind: api.MailSignal, To: to, Name: "s"} }

// The answer goes to the host for the shard that it is to, whoever sent the envelope.
func TestHandleAnswersTheHostForTheShard(t *testing.T) {
	w := lay(t, 12, 16, "workflow w\na wait s")
	h := w.alone(3)
	flow := flowOf(11, 12, 0)
	starts(t, h, flow, "w")
	h.Learn(api.View{Version: 2, Hosts: []int{9, 15}}) // shard 0 is host 9's, shard 11 host 15's
	acks(t, h, parcel(t, api.Envelope{Kind: api.EnvMail, From: 0, To: 11, Seq: 1, Mail: mail(flow)}), 3, 9, api.Envelope{From: 11, To: 0, Seq: 1})
	acks(t, h, parcel(t, api.Envelope{Kind: api.EnvMail, From: 11, To: 0, Seq: 1, Mail: mail("f")}), 3, 15, api.Envelope{From: 0, To: 11, Seq: 1})
	h.Learn(api.View{Version: 3}) // there is nobody to whom the answer could go
	handles(t, h, parcel(t, api.Envelope{Kind: api.EnvMail, From: 11, To: 0, Seq: 2, Mail: mail("f")}))
	if w.exec(0).Mark(11) != 2 { // it has had its effect all the same
		t.Fatal(w.exec(0).Mark(11))
	}
	if s := w.state(flow); s.Status != api.Done {
		t.Fatal(s)
	}
}

// What is no envelope is nothing.
func TestHandleOfAnyBytes(t *testing.T) {
	w, from, to := mailTown(t)
	h := w.alone(0)
	starts(t, h, to, "v")
	starts(t, h, from, "w")
	raw := mails(t, h, 0, 1).Bytes
	was := w.told()
	handles(t, h, api.Parcel{})
	handles(t, h, api.Parcel{Bytes: []byte("strange bytes")})
	for i := range raw {
		handles(t, h, api.Parcel{Bytes: raw[:i]})
	}
	for _, b := range []byte{0, 1, 255} {
		handles(t, h, api.Parcel{Bytes: append(slices.Clone(raw), b)})
	}
	if w.told() != was {
		t.Fatal("something has changed")
	}
	room := append(make([]byte, 0, 2*len(raw)), raw...)
	spare := bytes.Clone(room[:cap(room)])
	l := h.Handle(api.Parcel{Bytes: room}, now)
	if len(l) != 1 || !bytes.Equal(room[:cap(room)], spare) {
		t.Fatal(l)
	}
	clear(room)
	if w.exec(1).Mark(0) != 1 || w.state(to).Nodes[0].Status != api.Over {
		t.Fatal(w.state(to))
	}
}

// A host without an open hold of an envelope's shard does nothing, and says nothing.
func TestHandleWithoutAHold(t *testing.T) {
	w, from, to := mailTown(t)
	first := w.alone(0)
	starts(t, first, to, "v")
	starts(t, first, from, "w")
	p := mails(t, first, 0, 1)
	ack := parcel(t, api.Envelope{Kind: api.EnvAck, From: 1, To: 0, Seq: 1})
	viewed := w.host(1)
	viewed.Learn(api.View{Version: 1, Hosts: []int{0, 1}})
	first.Forget(0, nil)
	first.Forget(1, nil)
	was := w.told()
	for _, h := range []*host.Host{w.host(1), viewed, first} {
		handles(t, h, p)
		handles(t, h, ack)
	}
	if w.told() != was {
		t.Fatal("something has changed")
	}
	picks(t, first, api.PickOwn, 0, 0, now, api.OK) // of the other shard it has a hold: that is not enough
	was = w.told()
	handles(t, first, p)
	if w.told() != was {
		t.Fatal("something has changed")
	}
	picks(t, first, api.PickOwn, 1, 0, now, api.OK)
	w.steal(0)
	w.steal(1)
	was = w.told()
	for range 2 { // it is fenced, and learns it
		handles(t, first, p)
		handles(t, first, ack)
		if w.told() != was || len(first.Owns()) != 0 {
			t.Fatal(first.Owns())
		}
	}
}

// What the disk refuses is not answered, and comes again.
func TestHandleInTrouble(t *testing.T) {
	for after := range 3 {
		w, from, to := mailTown(t)
		h := w.alone(0)
		starts(t, h, to, "v")
		starts(t, h, from, "w")
		p := mails(t, h, 0, 1)
		w.disks[1].Fail(after, 0)
		handles(t, h, p)
		if w.exec(1).Mark(0) != 0 || w.state(to).Events != 3 {
			t.Fatal(w.state(to))
		}
		ack := acks(t, h, p, 0, 0, api.Envelope{From: 1, To: 0, Seq: 1})
		w.disks[0].Fail(after, 0)
		handles(t, h, ack)
		if len(w.exec(0).Outbox(1)) != 2 {
			t.Fatal(w.exec(0).Outbox(1))
		}
		handles(t, h, ack)
		if len(w.exec(0).Outbox(1)) != 1 {
			t.Fatal(w.exec(0).Outbox(1))
		}
	}
}

// A start that comes by mail is done by the host's definitions, and at the time that is told.
func TestHandleOfStarts(t *testing.T) {
	w := lay(t, 1, 1, "workflow p\na child v\nb child w", "workflow v\na timer 5")
	h := w.alone(0)
	starts(t, h, "f", "p")
	h.Handle(mails(t, h, 0, 0), 70)
	if l := w.exec(0).Alarms(); len(l) != 1 || l[0].Flow != "f/a" || l[0].At != 75 {
		t.Fatal(l)
	}
	h.Handle(parcel(t, api.Envelope{Kind: api.EnvAck, Seq: 1}), 70)
	acks(t, h, mails(t, h, 0, 0), 0, 0, api.Envelope{Seq: 2})
	l := w.exec(0).Outbox(0)
	if want := (api.Mail{Kind: api.MailChild, To: "f", From: "f/b", Node: "b", Status: api.Broken, Text: "none"}); len(l) != 2 || l[1].Mail != want {
		t.Fatal(l)
	}
}
