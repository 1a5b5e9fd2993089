package codec_test

import (
	"bytes"
	"fmt"
	"hash/crc32"
	"strings"
	"testing"

	"tiller/api"
	"tiller/codec"
)

// payloads are some that frames are made of.
func payloads() []string {
	return []string{"", "a", "ab", "123456789", "\x00", "\x00\x00\x00\x00", "\xff\xfe\xfd", strings.Repeat("\x00", 100), strings.Repeat("x", 300), string(everyByte())}
}

func everyByte() []byte {
	all := make([]byte, 256)
	for i := range all {
		all[i] = byte(i)
	}
	return all
}

// toldFrames is what Frames tells, up to so many.
func toldFrames(raw []byte, most int) string {
	var out []string
	if most == 0 {
		return ""
	}
	for at, payload := range codec.Frames(raw) {
		if out = append(out, fmt.Sprintf("%d:%s", at, payload)); len(out) == most {
			break
		}
	}
	return strings.Join(out, " ")
}

func wantNoFrame(t *testing.T, raw []byte) {
	t.Helper()
	if payload, size, e := codec.Unframe(raw); payload != nil || size != 0 || e != api.ErrForm {
		t.Fatalf("of %d bytes, %.20x: %x, %d, %d, want ErrForm", len(raw), raw, payload, size, e)
	}
}

// P2.3

func TestSum(t *testing.T) {
	if got := codec.Sum([]byte("123456789")); got != 0xcbf43926 {
		t.Fatalf("%x", got)
	}
	if got := codec.Sum(nil); got != 0 {
		t.Fatalf("%x", got)
	}
	for _, s := range payloads() {
		if got, want := codec.Sum([]byte(s)), crc32.ChecksumIEEE([]byte(s)); got != want {
			t.Errorf("%q: %x, want %x", s, got, want)
		}
	}
	for _, b := range everyByte() {
		if got, want := codec.Sum([]byte{b, 0, b}), crc32.ChecksumIEEE([]byte{b, 0, b}); got != want {
			t.Errorf("%x: %x, want %x", b, got, want)
		}
	}
}

func TestFrameIsLengthSumPayload(t *testing.T) {
	for payload, want := range map[string]string{
		"":          "00000000 00000000",
		"123456789": "00000009 cbf43926 313233343536373839",
		"\x00":      "00000001 d202ef8d 00",
	} {
		if got := codec.Frame([]byte(payload)); !bytes.Equal(got, spaced(t, want)) {
			t.Errorf("%q: %x, want %s", payload, got, want)
		}
	}
	if got := codec.Frame(make([]byte, 0x012345))[:4]; !bytes.Equal(got, []byte{0, 1, 0x23, 0x45}) {
		t.Errorf("%x", got)
	}
	if got := codec.Frame(make([]byte, 1<<24+0x10203))[:4]; !bytes.Equal(got, []byte{1, 1, 2, 3}) {
		t.Errorf("%x", got)
	}
}

func TestUnframeReadsTheFrameAtTheFront(t *testing.T) {
	for _, s := range payloads() {
		frame := codec.Frame([]byte(s))
		for _, more := range []string{"", "\x00", "more", string(frame)} {
			raw := append(bytes.Clone(frame), more...)
			if payload, size, e := codec.Unframe(raw); string(payload) != s || size != 8+len(s) || e != api.OK {
				t.Fatalf("%q and %q: %q, %d, %d", s, more, payload, size, e)
			}
		}
	}
}

func TestUnframeRefusesFramesCutShort(t *testing.T) {
	wantNoFrame(t, nil)
	for _, s := range payloads() {
		frame := codec.Frame([]byte(s))
		for size := range frame {
			wantNoFrame(t, frame[:size])
			wantNoFrame(t, append(bytes.Clone(frame[:size]), frame...)[:size])
		}
	}
}

func TestUnframeRefusesOneByteChanged(t *testing.T) {
	for _, s := range payloads() {
		frame := codec.Frame([]byte(s))
		for at := range frame {
			for _, flip := range []byte{1, 2, 0x80, 0xff} {
				changed := bytes.Clone(frame)
				changed[at] ^= flip
				wantNoFrame(t, changed)
			}
		}
	}
}

func TestUnframeRefusesLengthsBeyondRaw(t *testing.T) {
	// The Sum of nothing is 0: only the length is wrong here.
	for _, length := range []string{"00000001", "00000100", "00100000", "00100001", "7fffffff", "80000000", "ffffffff", "fffffff8"} {
		wantNoFrame(t, spaced(t, length+"00000000"))
		wantNoFrame(t, spaced(t, length+"00000000")[:8:8])
	}
}

func TestUnframeEndsAtMaxRecord(t *testing.T) {
	frame := codec.Frame(make([]byte, api.MaxRecord))
	if payload, size, e := codec.Unframe(frame); len(payload) != api.MaxRecord || size != api.MaxRecord+8 || e != api.OK {
		t.Fatal(len(payload), size, e)
	}
	wantNoFrame(t, frame[:len(frame)-1])
	wantNoFrame(t, codec.Frame(make([]byte, api.MaxRecord+1)))
	if got := toldFrames(codec.Frame(make([]byte, api.MaxRecord+1)), -1); got != "" {
		t.Fatal("Frames tells a frame that Unframe refuses")
	}
}

// row lays payloads into frames, one behind the other.
func row(payloads ...string) []byte {
	var raw []byte
	for _, s := range payloads {
		raw = append(raw, codec.Frame([]byte(s))...)
	}
	return raw
}

func TestFramesTellsPlacesAndPayloads(t *testing.T) {
	bad := row("bad")
	bad[9] ^= 1
	for _, run := range []struct {
		raw  []byte
		want string
	}{
		{nil, ""}, {[]byte{}, ""}, {[]byte("x"), ""}, {row("a"), "0:a"}, {row("", ""), "0: 8:"}, {row("ab", "", "cde"), "0:ab 10: 18:cde"},
		{append(row("ab", "c"), 0, 0, 0), "0:ab 10:c"}, {append(row("ab"), bad...), "0:ab"},
		{append(append(row("ab"), bad...), row("behind")...), "0:ab"}, {append(bad, row("behind")...), ""}, {make([]byte, 20), "0: 8:"},
	} {
		if got := toldFrames(run.raw, -1); got != run.want {
			t.Errorf("%x: %q, want %q", run.raw, got, run.want)
		}
	}
	whole := row("one", "two")
	for size := range whole {
		want := ""
		if size >= 11 {
			want = "0:one"
		}
		if got := toldFrames(whole[:size], -1); got != want {
			t.Errorf("cut at %d: %q", size, got)
		}
	}
}

func TestFramesStoppedAtAnyElement(t *testing.T) {
	raw := row("a", "b", "c")
	for most, want := range []string{"", "0:a", "0:a 9:b", "0:a 9:b 18:c", "0:a 9:b 18:c"} {
		if got := toldFrames(raw, most); got != want {
			t.Errorf("up to %d: %q, want %q", most, got, want)
		}
	}
}

func TestFramesRangedOverManyTimes(t *testing.T) {
	frames := codec.Frames(row("a", "b"))
	for range 3 {
		for at := range frames {
			if at != 0 {
				t.Fatal("begins at", at)
			}
			break
		}
		places := 0
		for at := range frames {
			for inner := range frames {
				places += 100*at + inner
			}
		}
		if places != 2*(9+900) {
			t.Fatal(places)
		}
	}
}

// R2

func TestFramesShareNoMemory(t *testing.T) {
	raw := row("ab", "cd")
	frames := codec.Frames(raw)
	spoil(raw)
	for range 2 {
		out := ""
		for at, payload := range frames {
			out += fmt.Sprint(at, string(payload), " ")
			spoil(payload[:cap(payload)])
			_ = append(payload, "xxxxxxxxxx"...)
		}
		if out != "0ab 10cd " {
			t.Fatal(out)
		}
	}
}

func TestFrameAndUnframeShareNoMemory(t *testing.T) {
	room := []byte("payload and room")
	frame := codec.Frame(room[:7])
	before := bytes.Clone(frame)
	if spoil(room); !bytes.Equal(frame, before) {
		t.Fatal("the frame changed with its payload")
	}
	for _, s := range []string{"", "ab"} {
		raw := row(s, "next")
		before := bytes.Clone(raw)
		payload, _, _ := codec.Unframe(raw)
		spoil(payload[:cap(payload)])
		if _ = append(payload, "xxxxxxxxxxxxx"...); !bytes.Equal(raw, before) {
			t.Fatal("the bytes changed with their payload")
		}
		payload, _, _ = codec.Unframe(raw)
		if spoil(raw); string(payload) != s {
			t.Fatal("the payload changed with its bytes")
		}
	}
}

func TestFrameChangesNoSpareRoom(t *testing.T) {
	room := []byte("payload and room")
	codec.Frame(room[:7])
	codec.Sum(room[:7])
	codec.Unframe(room[:7])
	for range codec.Frames(room[:7]) {
		t.Fatal("no frame is there")
	}
	if string(room) != "payload and room" {
		t.Fatal(string(room))
	}
}
