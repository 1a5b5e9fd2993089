package dag

import (
	"strconv"
	"strings"

	"tiller/api"
)

const (
	maxBytes  = 16384 // of a text
	maxDigits = 15    // of a number
)

// Parse reads a definition; a line, if it is refused. Every line's form counts ahead of what Check says of the first node.
func Parse(text string) (d api.Def, line int, e api.Errno) {
	if len(text) > maxBytes {
		return api.Def{}, 0, api.ErrLarge
	}
	d, lines, wrong := readLines(text)
	if wrong > 0 {
		return api.Def{}, wrong, api.ErrForm
	}
	node, e := Check(d)
	if e == api.OK {
		return d, 0, api.OK
	}
	if node >= 0 {
		line = lines[node]
	}
	return api.Def{}, line, e
}

// readLines reads a definition, and the line of each of its nodes; or it tells the first line that is in no form.
func readLines(text string) (d api.Def, lines []int, wrong int) {
	begun := false
	line := 1
	for ; text != ""; line++ {
		var this string
		this, text, _ = strings.Cut(text, "\n")
		r := reader{words: wordsOf(this)}
		switch {
		case r.silent():
			continue
		case !begun:
			begun = true
			d.Name = r.heading()
		default:
			d.Nodes = append(d.Nodes, r.node())
			lines = append(lines, line)
		}
		if r.bad {
			return api.Def{}, nil, line
		}
	}
	if !begun {
		return api.Def{}, nil, line
	}
	return d, lines, 0
}

// wordsOf are a line's words. Only the blank parts them: a tab is a byte of a word, and of a wrong one.
func wordsOf(line string) []string {
	return strings.FieldsFunc(line, func(r rune) bool { return r == ' ' })
}

// reader takes the words of a line one by one. Once a word is missing, or not in its form, the line is bad, whatever follows.
type reader struct {
	words []string
	bad   bool
}

// silent says whether the line says nothing.
func (r *reader) silent() bool {
	return len(r.words) == 0 || r.words[0][0] == '#'
}

// heading reads the line with the definition's name.
func (r *reader) heading() string {
	r.must(r.take("workflow"))
	name := r.name()
	r.end()
	return name
}

// node reads the line of a node.
func (r *reader) node() api.Node {
	n := api.Node{Name: r.name()}
	switch r.word() {
	case "activity":
		n.Kind, n.Arg, n.Tries = api.Activity, r.name(), 1
		if r.take("tries") {
			n.Tries = r.number()
		}
		if r.take("timeout") {
			n.Delay = r.number()
		}
	case "timer":
		n.Kind, n.Delay = api.Timer, r.number()
	case "child":
		n.Kind, n.Arg = api.Child, r.name()
	case "wait":
		n.Kind, n.Arg = api.Wait, r.name()
	case "send":
		n.Kind, n.To = api.Send, r.flow()
		n.Arg = r.name()
	default:
		r.bad = true
	}
	if r.take("after") {
		n.After = r.names()
	}
	r.end()
	return n
}

// must makes the line bad, unless it is right.
func (r *reader) must(right bool) {
	r.bad = r.bad || !right
}

// end says that the line has no further word.
func (r *reader) end() {
	r.must(len(r.words) == 0)
}

// take goes beyond the next word, if it is that one.
func (r *reader) take(word string) bool {
	if len(r.words) == 0 || r.words[0] != word {
		return false
	}
	r.words = r.words[1:]
	return true
}

func (r *reader) word() string {
	if len(r.words) == 0 {
		r.bad = true
		return ""
	}
	word := r.words[0]
	r.words = r.words[1:]
	return word
}

func (r *reader) name() string {
	word := r.word()
	r.must(Name(word))
	return word
}

func (r *reader) flow() string {
	word := r.word()
	r.must(Flow(word))
	return word
}

// names are all further words, one at the least.
func (r *reader) names() []string {
	names := []string{r.name()}
	for len(r.words) > 0 {
		names = append(names, r.name())
	}
	return names
}

func (r *reader) number() int {
	word := r.word()
	if !number(word) {
		r.bad = true
		return 0
	}
	value, _ := strconv.Atoi(word)
	return value
}

// number says whether a word is a number in its one form.
func number(word string) bool {
	return made(word, "0123456789", maxDigits) && (word == "0" || word[0] != '0')
}

// Text writes a definition.
func Text(d api.Def) string {
	if _, e := Check(d); e != api.OK {
		return ""
	}
	var text strings.Builder
	text.WriteString("workflow " + d.Name + "\n")
	for _, n := range d.Nodes {
		text.WriteString(strings.Join(written(n), " ") + "\n")
	}
	return text.String()
}

// written are the words of a node's line.
func written(n api.Node) []string {
	words := []string{n.Name}
	switch n.Kind {
	case api.Activity:
		words = append(words, "activity", n.Arg)
		if n.Tries != 1 {
			words = append(words, "tries", strconv.Itoa(n.Tries))
		}
		if n.Delay != 0 {
			words = append(words, "timeout", strconv.Itoa(n.Delay))
		}
	case api.Timer:
		words = append(words, "timer", strconv.Itoa(n.Delay))
	case api.Child:
		words = append(words, "child", n.Arg)
	case api.Wait:
		words = append(words, "wait", n.Arg)
	case api.Send:
		words = append(words, "send", n.To, n.Arg)
	}
	if len(n.After) > 0 {
		words = append(words, "after")
		words = append(words, n.After...)
	}
	return words
}
