package front

import (
	"strings"
	"unicode/utf8"

	"tiller/api"
)

const (
	mostFields = 16
	mostDigits = 15
	hexDigits  = 4 // of an escape by a character's number
)

// Object reads a body. Each label is a state, in which it is known what was read last; what stands at the place at says which one is next. Whatever no state goes on with is wrong there.
func Object(s string) ([]api.Pair, int, api.Errno) {
	var list []api.Pair
	var name, value string
	var opening int
	var ok bool

	at := pastBlanks(s, 0)
	if stands(s, at, '{') {
		goto opened
	}
	goto wrong

opened:
	if at = pastBlanks(s, at+1); stands(s, at, '}') {
		goto closed
	}

field:
	opening = at
	if name, at, ok = readText(s, at); ok {
		goto named
	}
	goto wrong

named:
	if _, twice := Field(list, name); twice {
		return nil, opening, api.ErrTwice
	}
	if len(list) == mostFields {
		return nil, opening, api.ErrMany
	}
	if at = pastBlanks(s, at); stands(s, at, ':') {
		goto colon
	}
	goto wrong

colon:
	if value, at, ok = readValue(s, pastBlanks(s, at+1)); !ok {
		goto wrong
	}
	list = append(list, api.Pair{Key: name, Value: value})
	if at = pastBlanks(s, at); stands(s, at, ',') {
		at = pastBlanks(s, at+1)
		goto field
	}
	if stands(s, at, '}') {
		goto closed
	}
	goto wrong

closed:
	if at = pastBlanks(s, at+1); at == len(s) {
		return list, 0, api.OK
	}

wrong:
	return nil, at, api.ErrForm
}

// stands says whether a byte stands at a place: behind the end none does.
func stands(s string, at int, c byte) bool {
	return at < len(s) && s[at] == c
}

// pastBlanks is the first place from at on at which no blank stands.
func pastBlanks(s string, at int) int {
	for at < len(s) && strings.IndexByte(" \t\n\r", s[at]) >= 0 {
		at++
	}
	return at
}

// readValue reads what stands behind a field's colon, and tells the place behind it, or that of the fault. So do all that read a part.
func readValue(s string, at int) (value string, next int, ok bool) {
	if !stands(s, at, '"') {
		return readNumber(s, at)
	}
	text, next, ok := readText(s, at)
	if !ok {
		return "", next, false
	}
	return textMark + text, next, true
}

// readNumber leaves a digit that is one too many (behind a nought, or behind mostDigits) where it stands: whatever comes behind a number refuses it there.
func readNumber(s string, at int) (digits string, next int, ok bool) {
	first := at
	if stands(s, at, '-') {
		first++
	} else if stands(s, at, '0') {
		return "0", at + 1, true
	}
	next = first
	if !stands(s, next, '0') {
		for next < len(s) && isDigit(s[next]) && next < first+mostDigits {
			next++
		}
	}
	if next == first {
		return "", first, false
	}
	return s[at:next], next, true
}

func readText(s string, at int) (text string, next int, ok bool) {
	if !stands(s, at, '"') {
		return "", at, false
	}
	var made strings.Builder
	for at++; !stands(s, at, '"'); at = next {
		var c rune
		if c, next, ok = readCharacter(s, at); !ok {
			return "", next, false
		}
		made.WriteRune(c)
	}
	return made.String(), at + 1, true
}

func readCharacter(s string, at int) (c rune, next int, ok bool) {
	if at == len(s) || s[at] < ' ' {
		return 0, at, false
	}
	if s[at] == '\\' {
		return readEscape(s, at)
	}
	c, size := utf8.DecodeRuneInString(s[at:])
	if c == utf8.RuneError && size == 1 {
		return 0, at, false
	}
	return c, at + size, true
}

// readEscape reads from a backslash on. Its place is that of the fault, unless s ends ahead of one.
func readEscape(s string, at int) (c rune, next int, ok bool) {
	if at+1 == len(s) {
		return 0, len(s), false
	}
	switch kind := s[at+1]; kind {
	case '"', '\\', '/':
		c = rune(kind)
	case 'b':
		c = '\b'
	case 'f':
		c = '\f'
	case 'n':
		c = '\n'
	case 'r':
		c = '\r'
	case 't':
		c = '\t'
	case 'u':
		return readHex(s, at)
	default:
		return 0, at, false
	}
	return c, at + 2, true
}

// readHex reads an escape by a character's number, from its backslash on.
func readHex(s string, at int) (c rune, next int, ok bool) {
	first := at + 2
	for next = first; next < first+hexDigits; next++ {
		if next == len(s) {
			return 0, next, false
		}
		digit := strings.IndexByte("0123456789abcdef", lower(s[next]))
		if digit < 0 {
			return 0, at, false
		}
		c = c*16 + rune(digit)
	}
	if !utf8.ValidRune(c) { // a half of a pair
		return 0, at, false
	}
	return c, next, true
}

func isDigit(c byte) bool {
	return c >= '0' && c <= '9'
}

// lower is the small letter of a capital one, and any other byte as it is.
func lower(c byte) byte {
	if c >= 'A' && c <= 'Z' {
		return c + 'a' - 'A'
	}
	return c
}
