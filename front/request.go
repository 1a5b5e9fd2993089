package front

import (
	"bytes"
	"strconv"
	"strings"
	"unicode/utf8"

	"tiller/api"
)

const (
	lineEnd    = "\r\n"
	headEnd    = lineEnd + lineEnd
	version    = "HTTP/1.1"
	mostLength = 9 // digits of a content-length
)

// What Read answers.
const (
	taken     = 200
	wrong     = 400
	noMethod  = 405
	largeBody = 413
	largeHead = 431
)

// head is what a request's head says.
type head struct {
	method, path string
	length       int
}

// Read reads a request; its status.
func Read(raw []byte) (method, path, body string, status int) {
	end := bytes.Index(raw[:min(len(raw), api.MaxHead)], []byte(headEnd))
	if end < 0 {
		if len(raw) >= api.MaxHead {
			return "", "", "", largeHead
		}
		return "", "", "", wrong
	}
	h, ok := readHead(string(raw[:end]))
	if !ok {
		return "", "", "", wrong
	}
	if h.method != "GET" && h.method != "POST" {
		return "", "", "", noMethod
	}
	if h.length > api.MaxBody {
		return "", "", "", largeBody
	}
	rest := raw[end+len(headEnd):]
	if len(rest) != h.length || !utf8.Valid(rest) {
		return "", "", "", wrong
	}
	return h.method, h.path, string(rest), taken
}

// readHead reads a head without the two line ends behind it.
func readHead(s string) (head, bool) {
	var h head
	lines := strings.Split(s, lineEnd)
	words := strings.Split(lines[0], " ")
	if len(words) != 3 || !all(words[0], isCapital) || !isPath(words[1]) || words[2] != version {
		return head{}, false
	}
	h.method, h.path = words[0], words[1]
	said := false
	for _, line := range lines[1:] {
		name, value, ok := strings.Cut(line, ":")
		if !ok || !all(name, isNameByte) || value != "" && !all(value, isValueByte) {
			return head{}, false
		}
		if !strings.EqualFold(name, "content-length") {
			continue
		}
		length, ok := readLength(strings.Trim(value, " "))
		if !ok || said {
			return head{}, false
		}
		h.length, said = length, true
	}
	return h, true
}

func readLength(s string) (int, bool) {
	if len(s) > mostLength || !all(s, isDigit) || len(s) > 1 && s[0] == '0' {
		return 0, false
	}
	n, err := strconv.Atoi(s)
	return n, err == nil
}

func isPath(s string) bool {
	rest, ok := strings.CutPrefix(s, "/")
	return ok && (rest == "" || all(rest, isPathByte))
}

// all says whether a text has bytes, and all of them are of a kind.
func all(s string, is func(byte) bool) bool {
	for at := range len(s) {
		if !is(s[at]) {
			return false
		}
	}
	return s != ""
}

func isCapital(c byte) bool {
	return c >= 'A' && c <= 'Z'
}

func isNameByte(c byte) bool {
	return isDigit(c) || isCapital(c) || isCapital(c-'a'+'A') || c == '-'
}

func isPathByte(c byte) bool {
	return c > ' ' && c < 127
}

func isValueByte(c byte) bool {
	return c >= ' ' && c < 127
}

// Query is a path and what stands behind the question mark.
func Query(path string) (string, string) {
	ahead, behind, _ := strings.Cut(path, "?")
	return ahead, behind
}
