package codec_test

import (
	"bytes"
	"fmt"
	"testing"

	"tiller/api"
)

// fault is the place at which an oracle finds bytes wrong; it is panicked with.
type fault int

// oracle reads as P2.1 tells it, and asks for nothing but the place of the first fault.
type oracle struct {
	raw string
	at  int
}

func (o *oracle) number(least, greatest uint64) uint64 {
	place := o.at
	if place >= len(o.raw) {
		panic(fault(len(o.raw)))
	}
	count := int(o.raw[place])
	if count > 7 {
		panic(fault(place))
	}
	if place+1+count > len(o.raw) {
		panic(fault(len(o.raw)))
	}
	o.at = place + 1 + count
	n := uint64(0)
	for _, c := range []byte(o.raw[place+1 : o.at]) {
		n = 256*n + uint64(c)
	}
	if n < least || n > greatest || count > 0 && n < 1<<(8*count-8) {
		panic(fault(place))
	}
	return n
}

func (o *oracle) any() uint64 { return o.number(0, 1<<52) }

func (o *oracle) texts(many int) {
	for range many {
		size := int(o.number(0, 1<<20))
		if o.at+size > len(o.raw) {
			panic(fault(len(o.raw)))
		}
		o.at += size
	}
}

func (o *oracle) flag() bool {
	if o.at >= len(o.raw) {
		panic(fault(len(o.raw)))
	}
	if o.raw[o.at] != 0 && o.raw[o.at] != 1 {
		panic(fault(o.at))
	}
	o.at++
	return o.raw[o.at-1] == 1
}

func (o *oracle) mail() {
	if o.number(0, 4) > 0 {
		o.texts(5)
		o.number(0, 4)
	}
}

// record goes through one that is like the one given.
func (o *oracle) record(like any) {
	switch like.(type) {
	case api.Event:
		o.number(1, 15)
		o.texts(2)
		o.any()
	case api.Task:
		o.number(1, 3)
		o.any()
		o.any()
		o.texts(2)
		o.any()
		o.any()
		o.mail()
	case api.Envelope:
		o.number(1, 2)
		o.any()
		o.any()
		o.any()
		o.mail()
	case api.Lease:
		o.any()
		o.any()
	case api.State:
		o.texts(4)
		o.number(0, 4)
		o.texts(1)
		for range o.any() {
			o.number(0, 4)
			o.any()
			o.texts(1)
		}
		for range o.any() {
			o.texts(2)
		}
		o.any()
	case []api.Op:
		for range o.any() {
			o.texts(1)
			if !o.flag() {
				o.texts(1)
			}
		}
	}
}

// faultOf is where these bytes are wrong, or -1.
func faultOf(like any, raw []byte) (place int) {
	defer func() {
		if found := recover(); found != nil {
			place = int(found.(fault))
		}
	}()
	o := &oracle{raw: string(raw)}
	if o.record(like); o.at < len(raw) {
		return o.at
	}
	return -1
}

// wantAsTheOracle ends the test if a reader and the oracle differ, or if what is read is not written so.
func wantAsTheOracle(t *testing.T, like any, raw []byte) {
	t.Helper()
	if place := faultOf(like, raw); place >= 0 {
		wantFault(t, like, raw, place)
		return
	}
	record, at, e := readAs(like, raw)
	if e != api.OK || at != 0 {
		t.Fatalf("%T of %x: %d, %d, want OK", like, raw, at, e)
	}
	if again, e := written(record); e != api.OK || !bytes.Equal(again, raw) {
		t.Fatalf("%T of %x is written as %x, %d", like, raw, again, e)
	}
}

// likes has one record of each kind.
func likes() []any {
	return []any{api.Event{}, api.Task{}, api.Envelope{}, api.Lease{}, api.State{}, []api.Op{}}
}

// rightRecords are many, unlike each other, with edges of each field.
func rightRecords() []any {
	list := []any{
		api.State{}, []api.Op(nil), api.Lease{},
		api.State{Nodes: []api.NodeState{{}}}, api.State{Nodes: []api.NodeState{{}, {}}}, api.State{Signals: []api.Signal{{}}},
		api.State{Nodes: []api.NodeState{{Status: 4, Try: most}, {Text: "b"}}, Signals: []api.Signal{{Name: "x"}, {Text: "x"}}},
		[]api.Op{{}}, []api.Op{{}, {}}, []api.Op{{Gone: true}}, []api.Op{{Key: "ab"}}, []api.Op{{Key: "a", Value: "b"}}, []api.Op{{Value: "ab"}}, []api.Op{{Key: "ab", Gone: true}},
		api.Task{Kind: 2, Mail: fullMail}, api.Envelope{Kind: 2, Mail: fullMail},
		api.Task{Kind: 2, ID: 1}, api.Task{Kind: 2, ID: 1i}, api.Task{Kind: 2, ID: 1 + 1i}, api.Task{Kind: 2, ID: most + most*1i},
	}
	for _, n := range []int{0, 1, 2, 15, 255, 256, half, most - 1, most} {
		list = append(list, api.Task{Kind: 1, Try: n}, api.Task{Kind: 3, At: n}, api.Envelope{Kind: 1, From: n}, api.Envelope{Kind: 2, To: n}, api.Lease{Owner: 1, Range: n}, api.State{Status: 1, Events: n})
	}
	for _, n := range []int{1, -1, 2, -2, 127, 128, -128, -129, half, -half, half - 1, 1 - half} {
		list = append(list, api.Event{Kind: 5, Number: n}, api.Lease{Owner: n})
	}
	for n := range 5 {
		list = append(list, api.State{Status: n, Text: "s"}, api.Event{Kind: n + 1, Text: "s"}, api.Envelope{Kind: 1, Seq: 3, Mail: api.Mail{Kind: 1 + n%4, Status: n}})
	}
	return append(list, withTexts("text")...)
}

// P2.4

func TestWhatIsWrittenIsReadAsIt(t *testing.T) {
	for _, record := range rightRecords() {
		raw, e := written(record)
		got, at, no := readAs(record, raw)
		if e != api.OK || no != api.OK || at != 0 || !same(got, record) {
			t.Fatalf("%s: %d, then %s, %d, %d", short(record), e, short(got), at, no)
		}
	}
}

func TestUnlikeRecordsHaveUnlikeBytes(t *testing.T) {
	of := map[string]any{}
	for _, record := range rightRecords() {
		raw, _ := written(record)
		key := fmt.Sprintf("%T %x", record, raw)
		if other, there := of[key]; there && !same(other, record) {
			t.Fatalf("%s and %s are both %x", short(record), short(other), raw)
		}
		of[key] = record
	}
}

// P2.1: every cut, every byte changed, taken out or put in, held against the oracle.

func TestReadersOfRecordsCutShortAnywhere(t *testing.T) {
	for _, record := range rightRecords() {
		raw, _ := written(record)
		for size := range raw {
			wantFault(t, record, raw[:size], size)
		}
		for _, more := range []string{"\x00", "\x01", "\xff", "more"} {
			wantFault(t, record, append(bytes.Clone(raw), more...), len(raw))
		}
	}
}

func TestReadersOfRecordsWithOneByteChanged(t *testing.T) {
	for _, record := range rightRecords() {
		raw, _ := written(record)
		for at := range raw {
			changed := bytes.Clone(raw)
			for v := range 256 {
				changed[at] = byte(v)
				wantAsTheOracle(t, record, changed)
			}
			wantAsTheOracle(t, record, append(bytes.Clone(raw[:at]), raw[at+1:]...))
			wantAsTheOracle(t, record, append(append(bytes.Clone(raw[:at]), 1), raw[at:]...))
		}
	}
}

func TestReadersOfAllShortBytes(t *testing.T) {
	letters := []byte{0, 1, 2, 5, 7, 8, 0x10}
	for _, like := range likes() {
		raw := make([]byte, 6)
		for size := range len(raw) + 1 {
			eachWord(raw[:size], letters, func() { wantAsTheOracle(t, like, raw[:size]) })
		}
	}
}

// TestReadersOfAllTails goes on behind fronts that short bytes do not come to.
func TestReadersOfAllTails(t *testing.T) {
	letters := []byte{0, 1, 2, 4, 5, 8}
	for _, front := range []struct {
		like any
		raw  []byte
	}{
		{api.Event{}, []byte{1, 15, 0, 0}}, {api.Task{}, make([]byte, 0)}, {api.Task{}, []byte{1, 3, 0, 0, 0, 0, 0, 0}}, {api.Task{}, []byte{1, 3, 0, 0, 0, 0, 0, 0, 1, 1, 0, 0, 0, 0}},
		{api.Envelope{}, []byte{1, 2, 0, 0, 0}}, {api.Envelope{}, []byte{1, 2, 0, 0, 0, 1, 4, 0, 0, 0, 0}},
		{api.State{}, make([]byte, 4)}, {api.State{}, make([]byte, 6)}, {api.State{}, make([]byte, 7)}, {api.State{}, []byte{0, 0, 0, 0, 0, 0, 1, 2, 0, 0, 0}},
		{[]api.Op{}, []byte{1, 2, 0, 1}}, {[]api.Op{}, []byte{1, 3, 0, 0, 0}},
	} {
		tail := make([]byte, 5)
		for size := range len(tail) + 1 {
			eachWord(tail[:size], letters, func() {
				wantAsTheOracle(t, front.like, append(bytes.Clone(front.raw), tail[:size]...))
			})
		}
	}
}

// eachWord fills the room with every word of these letters in turn.
func eachWord(room, letters []byte, do func()) {
	if len(room) == 0 {
		do()
		return
	}
	for _, letter := range letters {
		room[0] = letter
		eachWord(room[1:], letters, do)
	}
}
