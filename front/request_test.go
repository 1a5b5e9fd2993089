package front_test

import (
	"fmt"
	"math/rand"
	"slices"
	"strings"
	"testing"

	"tiller/front"
)

// P13.1

// wantRead holds Read to an answer, and the second telling to it, too.
func wantRead(t *testing.T, raw string, want request) {
	t.Helper()
	if got := read([]byte(raw)); got != want {
		t.Fatalf("Read of %.300q (%d bytes)\nis   %+v\nwant %+v", raw, len(raw), got, want)
	}
	if told := toldRequest(raw); told != want {
		t.Fatalf("the second telling of %.300q is %+v, want %+v", raw, told, want)
	}
}

func wantStatus(t *testing.T, raw string, status int) {
	t.Helper()
	wantRead(t, raw, request{status: status})
}

func TestReadRuns(t *testing.T) {
	wantRead(t, "POST /start HTTP/1.1\r\nContent-Length: 2\r\n\r\n{}", request{200, "POST", "/start", "{}"})
	wantStatus(t, "PUT / HTTP/1.1\r\n\r\n", 405)
	wantStatus(t, "POST /start HTTP/1.1\r\nContent-Length: 3\r\n\r\n{}", 400)
	wantStatus(t, "GET / HTTP/1.0\r\n\r\n", 400)
	wantStatus(t, "", 400)
	if got := read(nil); got != (request{status: 400}) {
		t.Fatal(got)
	}
}

func TestReadHeadWithoutEnd(t *testing.T) {
	for _, begin := range []string{"", "GET / HTTP/1.1\r\n", "POST / HTTP/1.1\r\nX: ", "\r\n", "PUT /", "\x00\xff"} {
		for _, size := range []int{0, 1, 2, 3, 4, 100, 4092, 4093, 4094, 4095, 4096, 4097, 5000, 9000} {
			for _, fill := range []string{"a", "\r", "\n", " ", "\xff", ".\r\n"} {
				raw := begin + strings.Repeat(fill, 9000)
				raw = raw[:max(size, len(begin))]
				want := 400
				if len(raw) >= 4096 {
					want = 431
				}
				wantStatus(t, raw, want)
			}
		}
	}
}

// The end of the head has to stand within the first 4096 bytes with all of its four.
func TestReadHeadOfAnySize(t *testing.T) {
	line := "GET / HTTP/1.1\r\n"
	for size := 4080; size <= 4110; size++ {
		byHeader := line + "X: " + strings.Repeat("v", size-len(line)-3-4) + "\r\n\r\n"
		byPath := "GET /" + strings.Repeat("p", size-len(line)-2) + " HTTP/1.1\r\n\r\n"
		noRequest := strings.Repeat("x", size-4) + "\r\n\r\n"
		for _, raw := range []string{byHeader, byPath, noRequest} {
			if len(raw) != size {
				t.Fatal(len(raw), size)
			}
		}
		if size > 4096 {
			for _, raw := range []string{byHeader, byPath, noRequest, byHeader + "body", noRequest + strings.Repeat("x", 5000)} {
				wantStatus(t, raw, 431)
			}
			continue
		}
		wantRead(t, byHeader, request{200, "GET", "/", ""})
		wantRead(t, byPath, request{200, "GET", "/" + strings.Repeat("p", size-len(line)-2), ""})
		wantStatus(t, noRequest, 400)
		wantStatus(t, byHeader+"b", 400)
		wantStatus(t, byHeader+strings.Repeat("b", 5000), 400)
	}
	body := strings.Repeat("b", 4096)
	lengths := "POST / HTTP/1.1\r\nContent-Length: 4096\r\nX: "
	wantRead(t, lengths+strings.Repeat("v", 4096-4-len(lengths))+"\r\n\r\n"+body, request{200, "POST", "/", body})
	wantStatus(t, lengths+strings.Repeat("v", 4096-3-len(lengths))+"\r\n\r\n"+body, 431)
}

func TestReadMethods(t *testing.T) {
	for _, method := range []string{"GET", "POST"} {
		wantRead(t, method+" /a HTTP/1.1\r\n\r\n", request{200, method, "/a", ""})
		wantRead(t, method+" /a HTTP/1.1\r\nContent-Length: 1\r\n\r\nx", request{200, method, "/a", "x"})
	}
	for _, method := range []string{"PUT", "HEAD", "G", "GE", "GETS", "AGET", "POS", "POSTS", "A", "Z", "GETPOST", strings.Repeat("Q", 3000)} {
		wantStatus(t, method+" /a HTTP/1.1\r\n\r\n", 405)
	}
	for c := range 256 {
		for _, method := range []string{string([]byte{byte(c)}), string([]byte{'G', byte(c), 'T'}), string([]byte{'G', 'E', 'T', byte(c)}), string([]byte{byte(c), 'G', 'E', 'T'})} {
			want := 400
			if c >= 'A' && c <= 'Z' {
				want = 405
			}
			if method == "GET" {
				continue
			}
			wantStatus(t, method+" /a HTTP/1.1\r\n\r\n", want)
		}
	}
	wantStatus(t, " /a HTTP/1.1\r\n\r\n", 400)
	wantStatus(t, "/a HTTP/1.1\r\n\r\n", 400)
}

func TestReadPaths(t *testing.T) {
	for _, path := range []string{"/", "//", "/a", "/a/b?c=d&e#f", "/?", "/!~", "/" + strings.Repeat("p", 2000)} {
		wantRead(t, "GET "+path+" HTTP/1.1\r\n\r\n", request{200, "GET", path, ""})
	}
	for _, path := range []string{"", "a", "a/", "?", "/a b", " /", "/ ", "*", "http://x/", "/é", "/\xff"} {
		wantStatus(t, "GET "+path+" HTTP/1.1\r\n\r\n", 400)
	}
	for c := range 256 {
		s := string([]byte{byte(c)})
		for _, path := range []string{"/" + s, "/a" + s + "b", "/a" + s} {
			raw := "GET " + path + " HTTP/1.1\r\n\r\n"
			if c >= 33 && c <= 126 {
				wantRead(t, raw, request{200, "GET", path, ""})
			} else {
				wantStatus(t, raw, 400)
			}
		}
		if s != "/" {
			wantStatus(t, "GET "+s+"a HTTP/1.1\r\n\r\n", 400)
		}
	}
}

func TestReadFirstLines(t *testing.T) {
	for _, line := range []string{
		"GET / HTTP/1.0", "GET / HTTP/2", "GET / HTTP/1.10", "GET / HTTP/1.1 ", "GET / HTTP/1.", "GET / http/1.1", "GET / HTTP/1.1\t", "GET / HTTP/1.1\r", "GET / HTTP/1.1\n",
		"GET  / HTTP/1.1", "GET /  HTTP/1.1", " GET / HTTP/1.1", "GET\t/ HTTP/1.1", "GET /\tHTTP/1.1", "GET / a HTTP/1.1", "GET /HTTP/1.1", "GET/ HTTP/1.1", "GET /", "GET / ", "GET", "GET ", "", " ", "  ",
	} {
		wantStatus(t, line+"\r\n\r\n", 400)
		wantStatus(t, line+"\r\nX: a\r\n\r\n", 400)
	}
	for _, raw := range []string{"\r\nGET / HTTP/1.1\r\n\r\n", "GET / HTTP/1.1\n\n", "GET / HTTP/1.1\r\r", "GET / HTTP/1.1\r\n", "GET / HTTP/1.1\r\n\r", "GET / HTTP/1.1\n\r\n\r\n", "GET / HTTP/1.1\nX: a\r\n\r\n", "GET / HTTP/1.1\r\nX: a\n\r\n\r\n", "\r\n\r\n", "\r\n\r\n\r\n"} {
		wantStatus(t, raw, 400)
	}
}

func TestReadHeaders(t *testing.T) {
	for _, lines := range []string{"X: a", "X:a", "X:", "X:  ", "X: a b: c ", "X: a\r\nX: a\r\nX: a", "x-1: ~", "-:-", "9: 9", "Content-Lengths: x", "Content: x", "Length: x", "Content-Length-: x", "-Content-Length: x", "ContentLength: x", "Content-Lengt: x", strings.Repeat("a", 1000) + ": b"} {
		wantRead(t, "GET / HTTP/1.1\r\n"+lines+"\r\n\r\n", request{200, "GET", "/", ""})
		wantRead(t, "GET / HTTP/1.1\r\n"+lines+"\r\nContent-Length: 1\r\n\r\nx", request{200, "GET", "/", "x"})
		wantRead(t, "GET / HTTP/1.1\r\nContent-Length: 1\r\n"+lines+"\r\n\r\nx", request{200, "GET", "/", "x"})
	}
	for _, lines := range []string{"X", "no colon", ":", ": a", " X: a", "X : a", "X\t: a", "X: a\t", "X:\ta", "é: a", "X: é", "X_1: a", "X: a\x7f", "X: a\x00", "X: a\nb", "X: a\rb", "X: a\r\nb", "X: a\r\n b: c", "\x00: a"} {
		wantStatus(t, "GET / HTTP/1.1\r\n"+lines+"\r\n\r\n", 400)
		wantStatus(t, "PUT / HTTP/1.1\r\nY: b\r\n"+lines+"\r\n\r\n", 400)
		wantStatus(t, "POST / HTTP/1.1\r\n"+lines+"\r\nContent-Length: 9999\r\n\r\n", 400)
	}
	for c := range 256 {
		s := string([]byte{byte(c)})
		inName := strings.Contains("abcdefghijklmnopqrstuvwxyzABCDEFGHIJKLMNOPQRSTUVWXYZ0123456789-", s)
		for _, name := range []string{s, s + "a", "a" + s, "a" + s + "a"} {
			want := request{status: 400}
			if inName || s == ":" && name[0] == 'a' { // then the rest is its value
				want = request{200, "GET", "/", ""}
			}
			wantRead(t, "GET / HTTP/1.1\r\n"+name+": v\r\n\r\n", want)
		}
		for _, value := range []string{s, s + "v", "v" + s, " v" + s + "v "} {
			want := request{status: 400}
			if c >= 32 && c <= 126 {
				want = request{200, "GET", "/", ""}
			}
			wantRead(t, "GET / HTTP/1.1\r\nX:"+value+"\r\n\r\n", want)
		}
	}
}

func TestReadLengths(t *testing.T) {
	for _, name := range []string{"Content-Length", "content-length", "CONTENT-LENGTH", "cOnTeNt-LeNgTh"} {
		for _, around := range []string{"", " ", "   "} {
			wantRead(t, "POST / HTTP/1.1\r\n"+name+":"+around+"2"+around+"\r\n\r\nab", request{200, "POST", "/", "ab"})
			wantRead(t, "POST / HTTP/1.1\r\n"+name+":"+around+"0"+around+"\r\n\r\n", request{200, "POST", "/", ""})
			wantStatus(t, "POST / HTTP/1.1\r\n"+name+":"+around+"\r\n\r\n", 400)
			wantStatus(t, "POST / HTTP/1.1\r\n"+name+":"+around+"02"+around+"\r\n\r\nab", 400)
		}
		for _, other := range []string{"Content-Length: 0", "CONTENT-length: 0", "content-length: 1", "content-length:", "content-length: x"} {
			wantStatus(t, "POST / HTTP/1.1\r\n"+name+": 0\r\n"+other+"\r\n\r\n", 400)
			wantStatus(t, "POST / HTTP/1.1\r\n"+name+": 0\r\nX: a\r\n"+other+"\r\n\r\n", 400)
			wantStatus(t, "POST / HTTP/1.1\r\n"+other+"\r\n"+name+": 1\r\n\r\na", 400)
		}
	}
	for _, value := range []string{"", "-0", "-1", "+1", "00", "01", "000000001", "1 1", "1,1", "1.0", "1e1", "0x1", "a", "1a", "1\"", "1_0", "1234567890", "0000000000", "1000000000", "99999999999999999999", "18446744073709551617", "４"} {
		wantStatus(t, "POST / HTTP/1.1\r\nContent-Length: "+value+"\r\n\r\na", 400)
		wantStatus(t, "PUT / HTTP/1.1\r\nContent-Length: "+value+"\r\n\r\n", 400)
	}
	for _, value := range []string{"4097", "4098", "5000", "9999", "10000", "999999", "123456789", "999999999", "100000000"} {
		wantStatus(t, "POST / HTTP/1.1\r\nContent-Length: "+value+"\r\n\r\na", 413)
		wantStatus(t, "GET / HTTP/1.1\r\nContent-Length: "+value+"\r\n\r\n\xff", 413)
		wantStatus(t, "PUT / HTTP/1.1\r\nContent-Length: "+value+"\r\n\r\n", 405)
	}
}

func TestReadBodies(t *testing.T) {
	for _, size := range []int{0, 1, 2, 9, 10, 11, 99, 100, 4095, 4096} {
		for has := max(0, size-2); has <= size+2; has++ {
			body := strings.Repeat("b", has)
			want := request{status: 400}
			if has == size {
				want = request{200, "POST", "/", body}
			}
			wantRead(t, fmt.Sprintf("POST / HTTP/1.1\r\nContent-Length: %d\r\n\r\n%s", size, body), want)
		}
	}
	big := strings.Repeat("b", 4097)
	wantStatus(t, "POST / HTTP/1.1\r\nContent-Length: 4097\r\n\r\n"+big, 413)
	wantStatus(t, "POST / HTTP/1.1\r\nContent-Length: 0\r\n\r\nb", 400)
	wantStatus(t, "POST / HTTP/1.1\r\n\r\nb", 400)
	wantStatus(t, "POST / HTTP/1.1\r\n\r\n"+strings.Repeat("b", 100000), 400)
	for _, body := range []string{"\r\n", "\r\n\r\n", "\x00\x7f", "é", "日本", "\U0001f600", "\ufffd", "GET / HTTP/1.1\r\n\r\n"} {
		wantRead(t, fmt.Sprintf("POST / HTTP/1.1\r\nContent-Length: %d\r\n\r\n%s", len(body), body), request{200, "POST", "/", body})
	}
	for _, body := range []string{"\xff", "a\x80", "\xc3", "\xe6\x97", "\xc0\x80", "\xed\xa0\x80", "\xf5\x80\x80\x80", "é\xa9", "{}\xfe"} {
		wantStatus(t, fmt.Sprintf("POST / HTTP/1.1\r\nContent-Length: %d\r\n\r\n%s", len(body), body), 400)
	}
}

// Of several faults the first of the chapter's row is told, wherever they stand.
func TestReadOfSeveralFaults(t *testing.T) {
	wantStatus(t, "PUT nowhere HTTP/1.1\r\n\r\n", 400)
	wantStatus(t, "PUT / HTTP/1.1\r\nX\r\n\r\n", 400)
	wantStatus(t, "PUT / HTTP/1.1\r\nContent-Length: 00\r\n\r\n", 400)
	wantStatus(t, "PUT / HTTP/1.1\r\nContent-Length: 5000\r\nContent-Length: 5000\r\n\r\n", 400)
	wantStatus(t, "PUT / HTTP/1.1\r\nContent-Length: 5000\r\n\r\n\xff", 405)
	wantStatus(t, "PUT / HTTP/1.1\r\nContent-Length: 1\r\n\r\n\xff", 405)
	wantStatus(t, "POST / HTTP/1.1\r\nContent-Length: 5000\r\nX\r\n\r\n", 400)
	wantStatus(t, "POST / HTTP/1.1\r\nContent-Length: 5000\r\n\r\n\xff", 413)
	wantStatus(t, strings.Repeat("PUT", 1365)+"\r\n\r\n", 431)
	wantStatus(t, "put / HTTP/1.1\r\nContent-Length: 5000\r\n\r\n", 400)
}

// parts are what random requests are made of: the first of each are right.
var parts = [][]string{
	{"GET", "POST", "PUT", "get", ""},
	{" ", " ", "  ", "", "\t"},
	{"/", "/start", "/query?flow=a", "start", "/a\x7f", "/é", ""},
	{" ", " ", "  ", "", "\r\n"},
	{"HTTP/1.1", "HTTP/1.1", "HTTP/1.0", "HTTP/1.1 ", ""},
	{"\r\n", "\r\n", "\n", "\r", ""},
	{"", "X: a\r\n", "X-2:  b  \r\n", "X\r\n", ": a\r\n", "X: \t\r\n", "\r\n"},
	{"Content-Length: 2\r\n", "content-length:2 \r\n", "", "Content-Length: 02\r\n", "Content-Length: 5000\r\n", "Content-Length:\r\n", "CONTENT-LENGTH: 1234567890\r\n"},
	{"", "Y: c\r\n", "Content-Length: 2\r\n", "Z\r\n"},
	{"\r\n", "\r\n", "\n", "", "\r\n\r\n"},
	{"{}", "ab", "", "{}x", "\xff\xff", "\r\n"},
}

func TestReadOfManyRequests(t *testing.T) {
	r := rand.New(rand.NewSource(131))
	seen := map[int]int{}
	for range 60000 {
		raw := ""
		for _, choice := range parts {
			pick := r.Intn(len(choice))
			if r.Intn(8) > 0 {
				pick = r.Intn(2) % len(choice)
			}
			raw += choice[pick]
		}
		for r.Intn(3) == 0 && len(raw) > 0 {
			at := r.Intn(len(raw))
			switch r.Intn(3) {
			case 0:
				raw = raw[:at] + raw[at+1:]
			case 1:
				raw = raw[:at] + string([]byte{byte(r.Intn(256))}) + raw[at:]
			case 2:
				raw = raw[:at] + string([]byte{"\r\n :/0A-a"[r.Intn(9)]}) + raw[at+1:]
			}
		}
		seen[holdRead(t, raw)]++
	}
	for _, status := range []int{200, 400, 405, 413} {
		if seen[status] < 200 {
			t.Fatal("too few of a status: ", seen)
		}
	}
}

// R2: what is handed in is neither changed nor kept.
func TestReadLeavesWhatItIsGiven(t *testing.T) {
	text := "POST /start HTTP/1.1\r\nContent-Length: 2\r\n\r\n{}and spare room"
	whole := []byte(text)
	raw := whole[: len(text)-len("and spare room") : len(text)]
	got := read(raw)
	if string(whole) != text {
		t.Fatalf("%q", whole)
	}
	for i := range whole {
		whole[i] = 'x'
	}
	if got != (request{200, "POST", "/start", "{}"}) {
		t.Fatal(got)
	}
	if !slices.Equal(raw, []byte(strings.Repeat("x", len(raw)))) {
		t.Fatalf("%q", raw)
	}
}

// P13.3: Query

func TestQuery(t *testing.T) {
	for path, want := range map[string][2]string{
		"": {"", ""}, "/": {"/", ""}, "/a": {"/a", ""}, "/a?": {"/a", ""}, "/a?b": {"/a", "b"}, "/a?b?c": {"/a", "b?c"}, "/a??b": {"/a", "?b"}, "?": {"", ""}, "??": {"", "?"}, "?b": {"", "b"},
		"/query?flow=a/b": {"/query", "flow=a/b"}, "/é?\xff": {"/é", "\xff"}, "/a%3Fb": {"/a%3Fb", ""},
	} {
		if ahead, behind := front.Query(path); ahead != want[0] || behind != want[1] {
			t.Fatalf("Query of %q is %q, %q, want %q", path, ahead, behind, want)
		}
	}
	long := strings.Repeat("a", 1<<20)
	if ahead, behind := front.Query(long + "?" + long); ahead != long || behind != long {
		t.Fatal(len(ahead), len(behind))
	}
}
