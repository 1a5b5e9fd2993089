package codec_test

import (
	"bytes"
	"encoding/hex"
	"fmt"
	"math"
	"reflect"
	"strings"
	"testing"

	"tiller/api"
	"tiller/codec"
)

const (
	most = api.MaxNumber
	half = api.MaxNumber / 2
)

// spaced takes bytes out of hexadecimal text, in which commas and spaces may stand.
func spaced(t *testing.T, text string) []byte {
	t.Helper()
	raw, err := hex.DecodeString(strings.NewReplacer(" ", "", ",", "").Replace(text))
	if err != nil {
		t.Fatal(err)
	}
	return raw
}

// written hands any record to its writer.
func written(record any) ([]byte, api.Errno) {
	switch v := record.(type) {
	case api.Event:
		return codec.Event(v)
	case api.Task:
		return codec.Task(v)
	case api.Envelope:
		return codec.Envelope(v)
	case api.Lease:
		return codec.Lease(v)
	case api.State:
		return codec.State(v)
	case []api.Op:
		return codec.Ops(v)
	case int:
		return codec.Number(v)
	}
	panic("no such record")
}

// readAs hands bytes to the reader of records like this one.
func readAs(like any, raw []byte) (any, int, api.Errno) {
	switch like.(type) {
	case api.Event:
		return boxed(codec.ReadEvent(raw))
	case api.Task:
		return boxed(codec.ReadTask(raw))
	case api.Envelope:
		return boxed(codec.ReadEnvelope(raw))
	case api.Lease:
		return boxed(codec.ReadLease(raw))
	case api.State:
		return boxed(codec.ReadState(raw))
	case []api.Op:
		return boxed(codec.ReadOps(raw))
	}
	panic("no such record")
}

func boxed[T any](record T, at int, e api.Errno) (any, int, api.Errno) { return record, at, e }

// short is a record's text, cut where it would fill the screen.
func short(record any) string {
	return fmt.Sprintf("%T %.300s", record, fmt.Sprintf("%+v", record))
}

// same says whether two records are one, nil and empty lists taken as one.
func same(a, b any) bool {
	return reflect.DeepEqual(plain(a), plain(b))
}

func plain(record any) any {
	switch v := record.(type) {
	case api.State:
		if len(v.Nodes) == 0 {
			v.Nodes = nil
		}
		if len(v.Signals) == 0 {
			v.Signals = nil
		}
		return v
	case []api.Op:
		if len(v) == 0 {
			return []api.Op(nil)
		}
	}
	return record
}

func wantRefused(t *testing.T, record any) {
	t.Helper()
	if raw, e := written(record); e != api.ErrForm || raw != nil {
		t.Fatalf("%s: %d bytes and %d, want none and ErrForm", short(record), len(raw), e)
	}
}

// wantFault ends the test if the bytes are not refused at this place, or something is told beside it.
func wantFault(t *testing.T, like any, raw []byte, place int) {
	t.Helper()
	record, at, e := readAs(like, raw)
	if e != api.ErrForm || at != place || !same(record, reflect.Zero(reflect.TypeOf(like)).Interface()) {
		t.Fatalf("%T of %x: %s at %d, %d, want nothing at %d, ErrForm", like, raw, short(record), at, e, place)
	}
}

// wantBoth ends the test if a record is not written so, or these bytes are not read as it.
func wantBoth(t *testing.T, record any, raw []byte) {
	t.Helper()
	if got, e := written(record); e != api.OK || !bytes.Equal(got, raw) {
		t.Fatalf("%s: %x, %d, want %x", short(record), got, e, raw)
	}
	if got, at, e := readAs(record, raw); e != api.OK || at != 0 || !same(got, record) {
		t.Fatalf("of %x: %s, %d, %d, want %s", raw, short(got), at, e, short(record))
	}
}

// P2.1: numbers

func TestNumberHasAsManyBytesAsItNeeds(t *testing.T) {
	for n, want := range map[int]string{
		0: "00", 1: "01 01", 5: "01 05", 255: "01 ff", 256: "02 01 00", 0xffff: "02 ff ff", 0x10000: "03 01 00 00",
		0xffffff: "03 ff ff ff", 1 << 24: "04 01 00 00 00", 1<<32 - 1: "04 ff ff ff ff", 1 << 32: "05 01 00 00 00 00",
		1<<40 - 1: "05 ff ff ff ff ff", 1 << 40: "06 01 00 00 00 00 00", 1 << 48: "07 01 00 00 00 00 00 00",
		0x0123456789abcd: "07 01 23 45 67 89 ab cd", most - 1: "07 0f ff ff ff ff ff ff", most: "07 10 00 00 00 00 00 00",
	} {
		raw := spaced(t, want)
		if got, e := codec.Number(n); e != api.OK || !bytes.Equal(got, raw) {
			t.Errorf("%d: %x, %d, want %s", n, got, e, want)
		}
		if got, size, e := codec.ReadNumber(raw); got != n || size != len(raw) || e != api.OK {
			t.Errorf("of %s: %d, %d, %d, want %d", want, got, size, e, n)
		}
		if got, size, e := codec.ReadNumber(append(raw, 0xff, 7)); got != n || size != len(raw) || e != api.OK {
			t.Errorf("of %s and more: %d, %d, %d, want %d", want, got, size, e, n)
		}
	}
}

func TestNumberOutOfRangeIsRefused(t *testing.T) {
	for _, n := range []int{-1, -2, -256, math.MinInt, most + 1, most + 2, 2 * most, 1 << 56, math.MaxInt} {
		wantRefused(t, n)
	}
}

func TestReadNumberTellsTheFaultsPlace(t *testing.T) {
	for raw, place := range map[string]int{
		"":      0,
		"01 00": 0, "02 00 01": 0, "02 00 00": 0, "07 00 ff ff ff ff ff ff": 0,
		"08": 0, "08 01 01 01 01 01 01 01 01": 0, "09": 0, "ff": 0, "80": 0,
		"07 10 00 00 00 00 00 01": 0, "07 ff ff ff ff ff ff ff": 0, "07 11 00 00 00 00 00 00 05": 0,
		"01": 1, "02 01": 2, "02 00": 2, "07 11": 2, "07 10 00 00 00 00 00": 7, "03 00 00": 3,
	} {
		if n, at, e := codec.ReadNumber(spaced(t, raw)); n != 0 || at != place || e != api.ErrForm {
			t.Errorf("%q: %d at %d, %d, want 0 at %d", raw, n, at, e, place)
		}
	}
}

// P2.1: the bytes of records

var fullMail = api.Mail{Kind: api.MailSignal, To: "to", From: "from", Node: "n", Name: "name", Text: "text", Status: api.Canceled}

const fullMailBytes = "01 03, 01 02 746f, 01 04 66726f6d, 01 01 6e, 01 04 6e616d65, 01 04 74657874, 01 04"

func TestEventBytes(t *testing.T) {
	wantBoth(t, api.Event{Kind: api.Closed, Text: "x", Number: 2}, spaced(t, "01 0f, 00, 01 01 78, 01 04"))
	wantBoth(t, api.Event{Kind: api.Started, Node: "ab"}, spaced(t, "01 01, 01 02 6162, 00, 00"))
	wantBoth(t, api.Event{Kind: api.Fired, Number: -300}, spaced(t, "01 08, 00, 00, 02 02 57"))
	for kind := api.Started; kind <= api.Closed; kind++ {
		wantBoth(t, api.Event{Kind: kind}, []byte{1, byte(kind), 0, 0, 0})
	}
}

func TestSignedIsTwiceItOrTwiceItsContraryLessOne(t *testing.T) {
	for n, want := range map[int]string{
		0: "00", -1: "01 01", 1: "01 02", -2: "01 03", 2: "01 04", -64: "01 7f", 127: "01 fe", -128: "01 ff", 128: "02 01 00",
		half - 1: "07 0f ff ff ff ff ff fe", -half: "07 0f ff ff ff ff ff ff", half: "07 10 00 00 00 00 00 00", -half + 1: "07 0f ff ff ff ff ff fd",
	} {
		wantBoth(t, api.Event{Kind: 1, Number: n}, spaced(t, "01 01, 00, 00, "+want))
		wantBoth(t, api.Lease{Owner: n, Range: 7}, spaced(t, want+"01 07"))
	}
}

func TestTaskBytes(t *testing.T) {
	wantBoth(t, api.Task{Kind: api.Dispatch, ID: 2 + 3i, Flow: "f", Node: "n", Try: 1}, spaced(t, "01 01, 01 02, 01 03, 01 01 66, 01 01 6e, 01 01, 00, 00"))
	wantBoth(t, api.Task{Kind: api.Alarm, ID: 256i, At: 513}, spaced(t, "01 02, 00, 02 01 00, 00, 00, 00, 02 02 01, 00"))
	wantBoth(t, api.Task{Kind: api.Message, ID: most, Mail: fullMail}, spaced(t, "01 03, 07 10 00 00 00 00 00 00, 00, 00, 00, 00, 00, "+fullMailBytes))
	wantBoth(t, api.Task{Kind: api.Message, ID: most * 1i, Try: most, At: most}, spaced(t, "01 03, 00, 07 10 00 00 00 00 00 00, 00, 00, 07 10 00 00 00 00 00 00, 07 10 00 00 00 00 00 00, 00"))
}

func TestEnvelopeBytes(t *testing.T) {
	wantBoth(t, api.Envelope{Kind: api.EnvAck, Seq: 9}, spaced(t, "01 02, 00, 00, 01 09, 00"))
	wantBoth(t, api.Envelope{Kind: api.EnvMail, From: 1, To: 2, Seq: 300, Mail: fullMail}, spaced(t, "01 01, 01 01, 01 02, 02 01 2c, "+fullMailBytes))
}

func TestMailBytes(t *testing.T) {
	for kind := api.MailStart; kind <= api.MailCancel; kind++ {
		for status := range api.Canceled + 1 {
			tail := []byte{1, byte(kind), 0, 0, 0, 0, 0}
			if tail = append(tail, 0); status > 0 {
				tail[7] = 1
				tail = append(tail, byte(status))
			}
			m := api.Mail{Kind: kind, Status: status}
			wantBoth(t, api.Task{Kind: 1, Mail: m}, append([]byte{1, 1, 0, 0, 0, 0, 0, 0}, tail...))
			wantBoth(t, api.Envelope{Kind: 1, Mail: m}, append([]byte{1, 1, 0, 0, 0}, tail...))
		}
	}
}

func TestLeaseBytes(t *testing.T) {
	wantBoth(t, api.Lease{Owner: -1, Range: 3}, spaced(t, "01 01, 01 03"))
	wantBoth(t, api.Lease{}, spaced(t, "00, 00"))
	wantBoth(t, api.Lease{Owner: half, Range: most}, spaced(t, "07 10 00 00 00 00 00 00, 07 10 00 00 00 00 00 00"))
}

func TestStateBytes(t *testing.T) {
	wantBoth(t, api.State{}, make([]byte, 9))
	wantBoth(t, api.State{Nodes: []api.NodeState{}, Signals: []api.Signal{}}, make([]byte, 9))
	wantBoth(t, api.State{
		Def: "d", ID: "id", Parent: "p", ParentNode: "pn", Status: api.Broken, Text: "t",
		Nodes:   []api.NodeState{{Status: api.Bad, Try: 3, Text: "x"}, {}, {Status: api.Ready}},
		Signals: []api.Signal{{Name: "a", Text: "bc"}, {}}, Events: 256,
	}, spaced(t, "010164, 01026964, 010170, 0102706e, 0103, 010174, 0103 0104 0103 010178 000000 0101 00 00, 0102 010161 01026263 0000, 020100"))
	wantBoth(t, api.State{Status: api.Canceled, Events: most}, spaced(t, "00 00 00 00 0104 00 00 00 07 10 00 00 00 00 00 00"))
}

func TestOpsBytes(t *testing.T) {
	wantBoth(t, []api.Op(nil), []byte{0})
	wantBoth(t, []api.Op{}, []byte{0})
	wantBoth(t, []api.Op{{Key: "k", Value: "v"}, {Key: "g", Gone: true}, {}}, spaced(t, "01 03, 01016b 00 010176, 010167 01, 00 00 00"))
	many := make([]api.Op, 300)
	wantBoth(t, many, append([]byte{2, 1, 0x2c}, make([]byte, 900)...))
}

func TestTextIsAnyBytes(t *testing.T) {
	for _, s := range []string{"\x00", "a\x00b", "\xff\xfe", "é", strings.Repeat("y", 255), strings.Repeat("y", 256)} {
		size, _ := codec.Number(len(s))
		wantBoth(t, api.Event{Kind: 1, Node: s}, append(append(append([]byte{1, 1}, size...), s...), 0, 0))
	}
}

// withTexts is records of all kinds, this text in one of their places each.
func withTexts(s string) []any {
	mails := []api.Mail{{Kind: 1, To: s}, {Kind: 1, From: s}, {Kind: 2, Node: s}, {Kind: 3, Name: s}, {Kind: 4, Text: s}}
	list := []any{
		api.Event{Kind: 1, Node: s}, api.Event{Kind: 1, Text: s},
		api.Task{Kind: 1, Flow: s}, api.Task{Kind: 1, Node: s},
		api.State{Def: s}, api.State{ID: s}, api.State{Parent: s}, api.State{ParentNode: s}, api.State{Text: s},
		api.State{Nodes: []api.NodeState{{}, {Text: s}}}, api.State{Signals: []api.Signal{{Name: s}}}, api.State{Signals: []api.Signal{{}, {Text: s}}},
		[]api.Op{{Key: s}}, []api.Op{{Value: s}}, []api.Op{{}, {Key: s, Gone: true}},
	}
	for _, m := range mails {
		list = append(list, api.Task{Kind: 3, Mail: m}, api.Envelope{Kind: 1, Mail: m})
	}
	return list
}

func TestTextsEndAtMaxRecord(t *testing.T) {
	for _, record := range withTexts(strings.Repeat("z", api.MaxRecord)) {
		raw, e := written(record)
		if got, _, no := readAs(record, raw); e != api.OK || no != api.OK || !same(got, record) {
			t.Fatalf("%s: %d, %d", short(record), e, no)
		}
		// One byte more, and its length says so: the fault lies at the length's count.
		at := bytes.Index(raw, []byte{3, 0x10, 0, 0, 'z'})
		longer := append(append(bytes.Clone(raw[:at]), 3, 0x10, 0, 1, 'z'), raw[at+4:]...)
		wantFault(t, record, longer, at)
		wantFault(t, record, longer[:at+4], at)
		wantFault(t, record, raw[:at+4], at+4)
		wantFault(t, record, raw[:len(raw)-len(raw)/3], len(raw)-len(raw)/3)
	}
	for _, record := range withTexts(strings.Repeat("z", api.MaxRecord+1)) {
		wantRefused(t, record)
	}
}

// P2.1: records that are not right

func TestKindsAndStatusesOutOfRangeAreRefused(t *testing.T) {
	for _, kind := range []int{0, -1, 16, 256 + 1, math.MinInt, math.MaxInt} {
		wantRefused(t, api.Event{Kind: kind})
	}
	for _, kind := range []int{0, -1, 4, 256 + 1, math.MinInt, math.MaxInt} {
		wantRefused(t, api.Task{Kind: kind})
	}
	for _, kind := range []int{0, -1, 3, 256 + 1, math.MinInt, math.MaxInt} {
		wantRefused(t, api.Envelope{Kind: kind})
	}
	for _, bad := range []int{-1, 5, 256 + 1, math.MinInt, math.MaxInt} {
		for _, m := range []api.Mail{{Kind: bad}, {Kind: 1, Status: bad}} {
			wantRefused(t, api.Task{Kind: 1, Mail: m})
			wantRefused(t, api.Envelope{Kind: 1, Mail: m})
		}
		wantRefused(t, api.State{Status: bad})
		wantRefused(t, api.State{Nodes: []api.NodeState{{}, {Status: bad}}})
	}
}

func TestNumbersOfRecordsOutOfRangeAreRefused(t *testing.T) {
	for _, n := range []int{-1, most + 1, 1 << 60, math.MinInt, math.MaxInt} {
		for _, record := range []any{
			api.Task{Kind: 1, Try: n}, api.Task{Kind: 1, At: n},
			api.Envelope{Kind: 1, From: n}, api.Envelope{Kind: 1, To: n}, api.Envelope{Kind: 1, Seq: n},
			api.Lease{Range: n}, api.State{Events: n}, api.State{Nodes: []api.NodeState{{Try: n}}},
		} {
			wantRefused(t, record)
		}
	}
	for _, n := range []int{half + 1, -half - 1, most, -most, 1 << 62, 1 << 63 / 2 * -1, math.MinInt, math.MaxInt} {
		wantRefused(t, api.Event{Kind: 1, Number: n})
		wantRefused(t, api.Lease{Owner: n})
	}
}

// wrongParts are numbers that no right ID has as a part.
func wrongParts() []float64 {
	return []float64{-1, math.Copysign(0, -1), 0.5, most - 0.5, most + 1, 1 << 53, 1e300, math.Inf(1), math.Inf(-1), math.NaN(), math.SmallestNonzeroFloat64, -0.5}
}

// wrongIDs have one wrong part, or two.
func wrongIDs() []api.ID {
	var list []api.ID
	for _, v := range wrongParts() {
		list = append(list, api.ID(complex(v, 3)), api.ID(complex(3, v)), api.ID(complex(v, 0)), api.ID(complex(0, v)), api.ID(complex(v, v)))
	}
	return list
}

func TestWrongIDsAreRefused(t *testing.T) {
	for _, id := range wrongIDs() {
		wantRefused(t, api.Task{Kind: 1, ID: id})
	}
}

func TestGoneWithAValueIsRefused(t *testing.T) {
	wantRefused(t, []api.Op{{Gone: true, Value: "x"}})
	wantRefused(t, []api.Op{{Key: "a"}, {Key: "b", Gone: true, Value: "\x00"}, {Key: "c"}})
}

func TestMailOfKindNoneHasNothingElse(t *testing.T) {
	for _, m := range []api.Mail{{To: "x"}, {From: "x"}, {Node: "x"}, {Name: "x"}, {Text: "x"}, {Status: 1}} {
		wantRefused(t, api.Task{Kind: 1, Mail: m})
		wantRefused(t, api.Envelope{Kind: 1, Mail: m})
	}
}

func TestOneWrongPartAmongRightOnesIsEnough(t *testing.T) {
	wantRefused(t, []api.Op{{Key: strings.Repeat("k", api.MaxRecord+1)}, {Key: "a", Value: "b"}})
	wantRefused(t, api.State{Nodes: []api.NodeState{{Status: 5}, {}}, Signals: []api.Signal{{}}, Events: 1})
	wantRefused(t, api.Task{Kind: 9, ID: 1, Flow: "f", Mail: fullMail})
}

// P2.1: the place of a fault

func TestReadersTellTheFaultsPlace(t *testing.T) {
	event, task, envelope, lease, state, ops := api.Event{}, api.Task{}, api.Envelope{}, api.Lease{}, api.State{}, []api.Op{}
	for _, run := range []struct {
		like  any
		raw   string
		place int
	}{
		{event, "", 0}, {event, "02", 1}, {event, "01 10", 0}, {event, "00", 0}, {event, "01 00", 0}, {event, "02 00 01 00 00 00", 0},
		{event, "01 01, 08", 2}, {event, "01 01, 01 00 00 00", 2}, {event, "01 01, 01 05 61", 5}, {event, "01 01, 00, 01 02 61", 6},
		{event, "01 01, 00, 00, 07 10 00 00 00 00 00 01", 4}, {event, "01 01, 00, 00, 09", 4}, {event, "01 01, 00, 00, 01", 5},
		{event, "01 01, 00, 00, 00, 00", 5}, {event, "01 01, 00, 00, 01 02 ff ff", 6}, {event, "01 01, 07 10 00 00 00 00 00 01", 2},
		{task, "01 04", 0}, {task, "01 01, 01 00", 2}, {task, "01 01, 00, 07 10 00 00 00 00 00 01", 3}, {task, "01 01, 07 10 00 00 00 00 00 01, 00", 2},
		{task, "01 01, 00 00 00 00 00, 08", 7}, {task, "01 01, 00 00 00 00, 01 00", 6}, {task, "01 01, 00 00 00 00 00 00, 01 05", 8},
		{task, "01 01, 00 00 00 00 00 00, 00, 00", 9}, {task, "01 01, 00 00 00 00 00 00, 01 01 00 00 00 00 00 01 05", 15},
		{task, "01 01, 00 00 00 00 00 00, 01 01 00 00 00 00 00 00 ff", 16}, {task, "01 01, 00 00 00 00 00 00, 01 01 00 00 00 00 00", 15},
		{envelope, "01 03", 0}, {envelope, "00", 0}, {envelope, "01 01, 00, 01 00", 3}, {envelope, "01 01, 00, 00, 08", 4}, {envelope, "01 01, 00 00 00, 01 05", 5},
		{envelope, "01 01, 00 00 00, 00, 00", 6}, {envelope, "01 01, 00 00 00, 01 04, 00 00 00 00 00, 01 05", 12},
		{lease, "", 0}, {lease, "00", 1}, {lease, "00 00 00", 2}, {lease, "07 10 00 00 00 00 00 01", 0}, {lease, "00, 07 10 00 00 00 00 00 01", 1}, {lease, "01", 1},
		{state, "00 00 00 00, 01 05", 4}, {state, "00 00 00 00 00 00, 01 01, 01 05", 8}, {state, "00 00 00 00 00 00, 01 02, 00 00 00", 11},
		{state, "00 00 00 00 00 00, 01 01, 00, 01 00", 9}, {state, "00 00 00 00 00 00 00, 01 02, 00 00 00", 12}, {state, "00 00 00 00 00 00 00, 01 01, 00 08", 10},
		{state, "00 00 00 00 00 00 00 00 00 00", 9}, {state, "00 00 00 00 00 00, 08", 6}, {state, "00 00 00 00 00 00 00, 01 00", 7}, {state, "00 00 00 00 00 00 00 00, 02 00 01", 8},
		{ops, "", 0}, {ops, "01", 1}, {ops, "08", 0}, {ops, "01 00", 0}, {ops, "01 01, 00, 02", 3}, {ops, "01 01, 00, ff 00", 3}, {ops, "01 01, 00", 3},
		{ops, "01 01, 00, 00", 4}, {ops, "01 01, 00, 01, 00", 4}, {ops, "00 00", 1}, {ops, "01 02, 00 01, 00", 5}, {ops, "01 02, 00 01, 00 03", 5},
		{ops, "07 10 00 00 00 00 00 00", 8}, {ops, "07 10 00 00 00 00 00 00, 00 01", 10}, {ops, "07 10 00 00 00 00 00 01, 00 01", 0}, {ops, "07 10 00 00 00 00 00 00, 00 01 00 02", 11},
	} {
		wantFault(t, run.like, spaced(t, run.raw), run.place)
	}
}

// R2: memory

func TestWriterAnswersShareNothing(t *testing.T) {
	for _, record := range rightRecords() {
		raw, _ := written(record)
		again, _ := written(record)
		before := bytes.Clone(again)
		spoil(raw[:cap(raw)])
		_ = append(raw, 0xee)
		if third, _ := written(record); !bytes.Equal(again, before) || !bytes.Equal(third, before) {
			t.Fatalf("%s: an answer changed another one", short(record))
		}
	}
}

func TestReadersNeitherChangeNorKeepTheirBytes(t *testing.T) {
	for _, record := range rightRecords() {
		raw, _ := written(record)
		room := append(bytes.Clone(raw), 1, 2, 3)
		before := bytes.Clone(room)
		got, _, _ := readAs(record, room[:len(raw)])
		if !bytes.Equal(room, before) {
			t.Fatalf("%s: the bytes read have changed", short(record))
		}
		if spoil(room); !same(got, record) {
			t.Fatalf("%s: what was read has changed with its bytes", short(record))
		}
	}
}

func TestWritersDoNotChangeLists(t *testing.T) {
	ops := []api.Op{{Key: "a", Value: "b"}, {Key: "c", Gone: true}, {Key: "spare"}}
	codec.Ops(ops[:2])
	if ops[0] != (api.Op{Key: "a", Value: "b"}) || ops[1] != (api.Op{Key: "c", Gone: true}) || ops[2] != (api.Op{Key: "spare"}) {
		t.Fatal(ops)
	}
	raw, _ := codec.Ops(ops[:2])
	first, _, _ := codec.ReadOps(raw)
	second, _, _ := codec.ReadOps(raw)
	first[0].Key = "other"
	if _ = append(first, api.Op{}); !same(second, ops[:2]) {
		t.Fatal(second)
	}
}

// spoil changes every byte.
func spoil(raw []byte) {
	for i := range raw {
		raw[i] ^= 0xa5
	}
}
