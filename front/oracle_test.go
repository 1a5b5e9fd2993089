package front_test

import (
	"encoding/json"
	"regexp"
	"sort"
	"strconv"
	"strings"
	"testing"
	"unicode/utf8"

	"tiller/api"
	"tiller/front"
)

// A second telling of requests and bodies: the chapter's sections Requests and JSON as regular expressions, and its promises by these.

const (
	blanksForm = `[ \t\n\r]*`
	hexForm    = `[0-9a-fA-F]`
	charForm   = `(?:[^\x00-\x1f"\\]|\\["\\/bfnrt]|\\u(?:[0-9a-ce-fA-CE-F]` + hexForm + `{3}|[dD][0-7]` + hexForm + `{2}))`
	textForm   = `"` + charForm + `*"`
	numberForm = `(?:0|-?[1-9][0-9]{0,14})`
	fieldForm  = textForm + blanksForm + `:` + blanksForm + `(?:` + textForm + `|` + numberForm + `)` + blanksForm
	aheadForm  = `\A` + blanksForm + `\{` + blanksForm + `(?:` + fieldForm + `,` + blanksForm + `)*`
)

var (
	wholeBody  = regexp.MustCompile(`\A` + blanksForm + `\{` + blanksForm + `(?:` + fieldForm + `(?:,` + blanksForm + fieldForm + `)*)?\}` + blanksForm + `\z`)
	nameRead   = regexp.MustCompile(aheadForm + `(` + textForm + `)\z`)
	openEscape = regexp.MustCompile(aheadForm + `(?:` + textForm + blanksForm + `:` + blanksForm + `)?"` + charForm + `*(\\(?:u` + hexForm + `{0,3})?)\z`)
	cutEscape  = regexp.MustCompile(`\A\\(?:u` + hexForm + `{0,3})?\z`)
)

// endings are such that each beginning of a body is one with one of them behind it.
var endings = []string{
	"", "{}", "}", `"":0}`, `":0}`, `:0}`, `0}`, `1}`, `"}`,
	`n":0}`, `0000":0}`, `000":0}`, `00":0}`, `0":0}`,
	`n"}`, `0000"}`, `000"}`, `00"}`, `0"}`,
}

func isBeginning(s string) bool {
	for _, ending := range endings {
		if wholeBody.MatchString(s + ending) {
			return true
		}
	}
	return false
}

// charactersOf is how many bytes of s are ahead of the first that belongs to no character.
func charactersOf(s string) int {
	for at, c := range s {
		if c == utf8.RuneError && !strings.HasPrefix(s[at:], "\ufffd") {
			return at
		}
	}
	return len(s)
}

// toldObject is Object by the chapter's words.
func toldObject(s string) ([]api.Pair, int, api.Errno) {
	whole := charactersOf(s)
	fault := sort.Search(whole, func(i int) bool { return !isBeginning(s[:i+1]) })
	if at, e := toldNames(s[:fault]); e != api.OK {
		return nil, at, e
	}
	if fault == len(s) {
		if wholeBody.MatchString(s) {
			return toldFields(s), 0, api.OK
		}
		return nil, fault, api.ErrForm
	}
	if m := openEscape.FindStringSubmatchIndex(s[:fault]); m != nil {
		if cutEscape.MatchString(s[m[2]:]) {
			return nil, len(s), api.ErrForm
		}
		return nil, m[2], api.ErrForm
	}
	return nil, fault, api.ErrForm
}

// toldNames goes through the names that were read.
func toldNames(s string) (int, api.Errno) {
	var names []string
	for i := range len(s) {
		m := []int(nil)
		if s[i] == '"' {
			m = nameRead.FindStringSubmatchIndex(s[:i+1])
		}
		if m == nil {
			continue
		}
		var name string
		if err := json.Unmarshal([]byte(s[m[2]:m[3]]), &name); err != nil {
			panic(err)
		}
		for _, other := range names {
			if other == name {
				return m[2], api.ErrTwice
			}
		}
		if names = append(names, name); len(names) > 16 {
			return m[2], api.ErrMany
		}
	}
	return 0, api.OK
}

// toldFields are the fields of a body that is taken, as the library reads it.
func toldFields(s string) []api.Pair {
	d := json.NewDecoder(strings.NewReader(s))
	d.UseNumber()
	next := func() json.Token {
		t, err := d.Token()
		if err != nil {
			panic(err)
		}
		return t
	}
	next()
	var list []api.Pair
	for d.More() {
		name := next().(string)
		switch value := next().(type) {
		case string:
			list = append(list, api.Pair{Key: name, Value: `"` + value})
		case json.Number:
			list = append(list, api.Pair{Key: name, Value: value.String()})
		}
	}
	return list
}

// holdObject holds Object and Fields to the chapter's words.
func holdObject(t *testing.T, s string) api.Errno {
	t.Helper()
	list, at, e := front.Object(s)
	wantList, wantAt, wantE := toldObject(s)
	if at != wantAt || e != wantE || !samePairs(list, wantList) {
		t.Fatalf("Object of %q is %q, %d, %d, want %q, %d, %d", s, list, at, e, wantList, wantAt, wantE)
	}
	i := 0
	for name, value := range front.Fields(s) {
		if i == len(list) || list[i].Key != name || list[i].Value != value {
			t.Fatalf("Fields of %q tells %q, %q as number %d, want %q", s, name, value, i, list)
		}
		i++
	}
	if i != len(list) {
		t.Fatalf("Fields of %q tells %d fields, want %d", s, i, len(list))
	}
	return e
}

func samePairs(a, b []api.Pair) bool {
	if len(a) != len(b) {
		return false
	}
	for i := range a {
		if a[i] != b[i] {
			return false
		}
	}
	return true
}

// request is what Read answers.
type request struct {
	status             int
	method, path, body string
}

var (
	wholeHead  = regexp.MustCompile(`\A([A-Z]+) (/[!-~]*) HTTP/1\.1\r\n((?:[A-Za-z0-9-]+:[ -~]*\r\n)*)\r\n`)
	lengthLine = regexp.MustCompile(`(?mi)^content-length:([^\r]*)\r$`)
	lengthForm = regexp.MustCompile(`\A *(0|[1-9][0-9]{0,8}) *\z`)
)

// toldRequest is Read by the chapter's words.
func toldRequest(raw string) request {
	if !strings.Contains(raw[:min(len(raw), 4096)], "\r\n\r\n") && len(raw) >= 4096 {
		return request{status: 431}
	}
	parts := wholeHead.FindStringSubmatch(raw)
	if parts == nil {
		return request{status: 400}
	}
	length := 0
	for i, line := range lengthLine.FindAllStringSubmatch(parts[3], -1) {
		said := lengthForm.FindStringSubmatch(line[1])
		if said == nil || i > 0 {
			return request{status: 400}
		}
		length, _ = strconv.Atoi(said[1])
	}
	if parts[1] != "GET" && parts[1] != "POST" {
		return request{status: 405}
	}
	if length > 4096 {
		return request{status: 413}
	}
	body := raw[len(parts[0]):]
	if len(body) != length || !utf8.ValidString(body) {
		return request{status: 400}
	}
	return request{200, parts[1], parts[2], body}
}

func read(raw []byte) request {
	method, path, body, status := front.Read(raw)
	return request{status, method, path, body}
}

// holdRead holds Read to the chapter's words.
func holdRead(t *testing.T, raw string) int {
	t.Helper()
	got, want := read([]byte(raw)), toldRequest(raw)
	if got != want {
		t.Fatalf("Read of %.300q (%d bytes)\nis   %+v\nwant %+v", raw, len(raw), got, want)
	}
	return got.status
}
