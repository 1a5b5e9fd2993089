package front

import (
	"strconv"
	"strings"
	"unicode/utf8"

	"tiller/api"
	"tiller/history"
)

// Reply writes a reply.
func Reply(status int, body string) []byte {
	first := version + " " + strconv.Itoa(status) + " " + word(status)
	length := "Content-Length: " + strconv.Itoa(len(body))
	return []byte(first + lineEnd + length + headEnd + body)
}

// word is what a status is called.
func word(status int) string {
	switch status {
	case 200:
		return "OK"
	case 307:
		return "Temporary Redirect"
	case 400:
		return "Bad Request"
	case 404:
		return "Not Found"
	case 405:
		return "Method Not Allowed"
	case 409:
		return "Conflict"
	case 413:
		return "Content Too Large"
	case 429:
		return "Too Many Requests"
	case 431:
		return "Request Header Fields Too Large"
	case 503:
		return "Service Unavailable"
	}
	return "Unknown"
}

// Error is a refusal's reply.
func Error(e api.Errno) (int, string) {
	status, why := refusal(e)
	return status, `{"error":` + Quote(why) + `}`
}

func refusal(e api.Errno) (status int, why string) {
	switch e {
	case api.ErrNone:
		return 404, "none"
	case api.ErrThere:
		return 409, "there"
	case api.ErrClosed:
		return 409, "closed"
	case api.ErrState:
		return 409, "state"
	case api.ErrFull:
		return 429, "full"
	case api.ErrLarge:
		return 413, "large"
	case api.ErrName:
		return 400, "name"
	case api.ErrForm:
		return 400, "form"
	case api.ErrArg:
		return 400, "argument"
	case api.ErrIO, api.ErrDead:
		return 503, "storage"
	case api.ErrOwner, api.ErrFence:
		return 307, "owner"
	}
	return 400, "refused"
}

// Quote writes a text.
func Quote(s string) string {
	var out strings.Builder
	out.WriteByte('"')
	for len(s) > 0 {
		c, size := utf8.DecodeRuneInString(s)
		if c == utf8.RuneError && size == 1 {
			out.WriteString(`\ufffd`)
		} else if c < ' ' || c == '"' || c == '\\' {
			out.WriteString(escaped(s[0]))
		} else {
			out.WriteString(s[:size])
		}
		s = s[size:]
	}
	out.WriteByte('"')
	return out.String()
}

// escaped is a byte that may not stand in a text as it is.
func escaped(c byte) string {
	switch c {
	case '\b':
		return `\b`
	case '\f':
		return `\f`
	case '\n':
		return `\n`
	case '\r':
		return `\r`
	case '\t':
		return `\t`
	case '"', '\\':
		return `\` + string(rune(c))
	}
	const digits = "0123456789abcdef"
	return `\u00` + digits[c/16:c/16+1] + digits[c%16:c%16+1]
}

// State writes a workflow's state. The nodes that are over are counted among those of the state, also where the definition has fewer.
func State(d api.Def, s api.State) string {
	over := 0
	for _, n := range s.Nodes {
		if n.Status == api.Over {
			over++
		}
	}
	var out strings.Builder
	out.WriteString(`{"flow":` + Quote(s.ID) + `,"def":` + Quote(s.Def))
	out.WriteString(`,"status":` + Quote(history.Words(s.Status)) + `,"text":` + Quote(s.Text))
	out.WriteString(`,"events":` + strconv.Itoa(s.Events))
	out.WriteString(`,"over":` + strconv.Itoa(over) + `,"left":` + strconv.Itoa(len(s.Nodes)-over))
	out.WriteString(`,"nodes":[`)
	for i := range min(len(d.Nodes), len(s.Nodes)) {
		if i > 0 {
			out.WriteByte(',')
		}
		out.WriteString(node(d.Nodes[i].Name, s.Nodes[i]))
	}
	out.WriteString(`]}`)
	return out.String()
}

func node(name string, n api.NodeState) string {
	text := `{"name":` + Quote(name) + `,"status":` + Quote(standing(n.Status))
	return text + `,"try":` + strconv.Itoa(n.Try) + `,"text":` + Quote(n.Text) + `}`
}

// standing is how a node stands in words.
func standing(status int) string {
	switch status {
	case api.Idle:
		return "idle"
	case api.Ready:
		return "ready"
	case api.Busy:
		return "busy"
	case api.Over:
		return "over"
	case api.Bad:
		return "bad"
	}
	return ""
}
