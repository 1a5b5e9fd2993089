package front_test

import (
	"fmt"
	"math/rand"
	"slices"
	"strings"
	"testing"

	"tiller/api"
	"tiller/front"
)

// P13.2

// wantObject holds Object to an answer, and the second telling to it, too.
func wantObject(t *testing.T, s string, list []api.Pair, at int, e api.Errno) {
	t.Helper()
	gotList, gotAt, gotE := front.Object(s)
	if gotAt != at || gotE != e || !samePairs(gotList, list) {
		t.Fatalf("Object of %q is %q, %d, %d, want %q, %d, %d", s, gotList, gotAt, gotE, list, at, e)
	}
	holdObject(t, s)
}

func wantFields(t *testing.T, s string, list ...api.Pair) {
	t.Helper()
	wantObject(t, s, list, 0, api.OK)
}

func wantFault(t *testing.T, s string, at int, e api.Errno) {
	t.Helper()
	wantObject(t, s, nil, at, e)
}

// wantText holds a text between quotes to what it means, as a name and as a value.
func wantText(t *testing.T, written, text string) {
	t.Helper()
	wantFields(t, `{"k":"`+written+`"}`, api.Pair{Key: "k", Value: `"` + text})
	wantFields(t, `{"`+written+`":7}`, api.Pair{Key: text, Value: "7"})
}

// wantTextFault holds a text between quotes, with nothing behind it, to the place of its fault, as a name and as a value.
func wantTextFault(t *testing.T, written string, at int) {
	t.Helper()
	wantFault(t, `{"`+written, 2+at, api.ErrForm)
	wantFault(t, `{"k":"`+written, 6+at, api.ErrForm)
	wantFault(t, `{"k":1,"`+written, 8+at, api.ErrForm)
}

func TestObjectRuns(t *testing.T) {
	wantFields(t, `{"a":"x","b":-5}`, api.Pair{Key: "a", Value: `"x`}, api.Pair{Key: "b", Value: "-5"})
	wantFields(t, `{}`)
	wantFault(t, `{"a":1,"a":2}`, 7, api.ErrTwice)
	wantFault(t, `{"a":01}`, 6, api.ErrForm)
	wantFault(t, `{"a":1`, 6, api.ErrForm)
	wantFault(t, `{"a":"\ud800"}`, 6, api.ErrForm)
	wantFault(t, `[]`, 0, api.ErrForm)
}

// many is an object of some fields without its end.
func many(n int) string {
	fields := make([]string, n)
	for i := range fields {
		fields[i] = fmt.Sprintf(`"f%d":%d`, i, i)
	}
	return "{" + strings.Join(fields, ",")
}

func TestObjectOfManyFields(t *testing.T) {
	for n := range 17 {
		var list []api.Pair
		for i := range n {
			list = append(list, api.Pair{Key: fmt.Sprint("f", i), Value: fmt.Sprint(i)})
		}
		wantFields(t, many(n)+"}", list...)
	}
	full := many(16) + ","
	for _, behind := range []string{`"x":1}`, `"x"`, `"x"}`, `"x" junk`, `"":""}`, `"x":1,"y":2}`} {
		wantFault(t, full+behind, len(full), api.ErrMany)
		wantFault(t, full+"  "+behind, len(full)+2, api.ErrMany)
	}
	wantFault(t, full+`"f3":1}`, len(full), api.ErrTwice)
	wantFault(t, full+` "f15"`, len(full)+1, api.ErrTwice)
	wantFault(t, full+`"x`, len(full)+2, api.ErrForm)
	wantFault(t, full+"\"x\n\"", len(full)+2, api.ErrForm)
	wantFault(t, full+`}`, len(full), api.ErrForm)
	wantFault(t, full+`1`, len(full), api.ErrForm)
	wantFault(t, full, len(full), api.ErrForm)
	wantFault(t, many(17)+"}", strings.Index(many(17), `"f16"`), api.ErrMany)
	wantFault(t, many(40), strings.Index(many(40), `"f16"`), api.ErrMany)
}

func TestObjectOfOneNameTwice(t *testing.T) {
	for _, s := range []string{`{"a":1,"a":2}`, `{"a":1,"a"`, `{"a":1,"a" x`, `{"a":1,"a"}`, `{"a":1,"\u0061":2}`, `{"\u0061":1,"a":2}`, `{"a":"a","a":2,"a":3}`, `{"a":1,"a":01}`} {
		wantFault(t, s, strings.LastIndex(s[:strings.Index(s, ",")+2], `"`), api.ErrTwice)
	}
	wantFault(t, `{"a":1,"b":2, "a":3}`, 14, api.ErrTwice)
	wantFault(t, `{"":1,"":2}`, 6, api.ErrTwice)
	wantFault(t, `{"é":1,"\u00e9":2}`, 8, api.ErrTwice)
	wantFault(t, `{"/":1,"\/":2}`, 7, api.ErrTwice)
	wantFault(t, `{"a":1,"a`, 9, api.ErrForm)
	wantFault(t, `{"a":1,"a\`, 10, api.ErrForm)
	wantFault(t, `{"a":01,"a":2}`, 6, api.ErrForm)
	wantFields(t, `{"a":1,"A":2,"aa":3,"":4}`, api.Pair{Key: "a", Value: "1"}, api.Pair{Key: "A", Value: "2"}, api.Pair{Key: "aa", Value: "3"}, api.Pair{Key: "", Value: "4"})
	// Names are texts, not values: a value may be as any name.
	wantFields(t, `{"a":"b","b":"a"}`, api.Pair{Key: "a", Value: `"b`}, api.Pair{Key: "b", Value: `"a`})
}

// Blanks may stand around everything, and nothing else may.
func TestObjectWithBlanks(t *testing.T) {
	tokens := []string{"{", `"a"`, ":", `"x y"`, ",", `"b"`, ":", "-5", "}"}
	list := []api.Pair{{Key: "a", Value: `"x y`}, {Key: "b", Value: "-5"}}
	for _, blank := range []string{"", " ", "\t", "\n", "\r", " \t\n\r ", "\r\n\r\n"} {
		wantFields(t, blank+strings.Join(tokens, blank)+blank, list...)
		wantFields(t, blank+"{"+blank+"}"+blank)
		for i := range len(tokens) + 1 {
			wantFields(t, strings.Join(tokens[:i], "")+blank+strings.Join(tokens[i:], ""), list...)
			wantFault(t, strings.Join(tokens[:i], "")+blank+"\v"+strings.Join(tokens[i:], ""), len(strings.Join(tokens[:i], "")+blank), api.ErrForm)
		}
	}
	for c := range 256 {
		if strings.IndexByte(" \t\n\r", byte(c)) >= 0 {
			continue
		}
		s := string([]byte{byte(c)})
		wantFault(t, `{}`+s, 2, api.ErrForm)
		wantFault(t, `{"a":1} `+s, 8, api.ErrForm)
		if s != "{" {
			wantFault(t, s+`{}`, 0, api.ErrForm)
		}
		if s != `"` && s != "}" {
			wantFault(t, `{ `+s, 2, api.ErrForm)
		}
		if s != ":" {
			wantFault(t, `{"a"`+s, 4, api.ErrForm)
		}
		if s != "," && s != "}" {
			wantFault(t, `{"a":"b"`+s, 8, api.ErrForm)
		}
		if s != `"` {
			wantFault(t, `{"a":1,`+s, 7, api.ErrForm)
		}
	}
}

// Cut anywhere, a body is a beginning of one: the fault is behind it.
func TestObjectThatIsCut(t *testing.T) {
	for _, s := range []string{`{}`, `{"a":1}`, `{"a":-12,"b":"x"}`, ` { "a" : "\n\u00e9\\" , "b\"" : 0 } `, many(16) + "}"} {
		for size := range len(s) {
			if strings.Trim(s[size:], " ") != "" {
				wantFault(t, s[:size], size, api.ErrForm)
			}
		}
	}
}

func TestObjectOfEscapes(t *testing.T) {
	for written, text := range map[string]string{`\"`: `"`, `\\`: `\`, `\/`: `/`, `\b`: "\b", `\f`: "\f", `\n`: "\n", `\r`: "\r", `\t`: "\t", `\u0000`: "\x00", `\u001f`: "\x1f", `\u0022`: `"`, `\u005c`: `\`, `\u005C`: `\`, `\u007f`: "\x7f", `\u0080`: "\u0080", `\u07ff`: "\u07ff", `\u0800`: "\u0800", `\ud7ff`: "\ud7ff", `\uE000`: "\ue000", `\ufffd`: "\ufffd", `\uFFFF`: "\uffff", `\uAbCd`: "\uabcd", `\\u0041`: `\u0041`, `\\\"`: `\"`, `\u00411`: "A1"} {
		wantText(t, written, text)
		wantText(t, "a"+written+"b", "a"+text+"b")
		wantText(t, written+written, text+text)
	}
	for c := range 256 {
		s := string([]byte{byte(c)})
		if !strings.Contains(`"\/bfnrtu`, s) {
			for _, behind := range []string{"", `"`, "x", `":1}`} {
				wantTextFault(t, `\`+s+behind, 0)
				wantTextFault(t, `é\\\`+s+behind, 4)
			}
		}
		if !strings.Contains("0123456789abcdefABCDEF", s) {
			for _, digits := range []string{`\u`, `\u1`, `\u12`, `\ud83`} {
				for _, behind := range []string{"", "0", "0000", `"`} {
					wantTextFault(t, digits+s+behind, 0)
					wantTextFault(t, "ab"+digits+s+behind, 2)
				}
			}
		}
	}
	for _, cut := range []string{`\`, `\u`, `\u0`, `\u00`, `\u00e`, `\uD`, `\uD8`, `\ud83`, `\udf`, `\udff`} {
		wantTextFault(t, cut, len(cut))
		wantTextFault(t, "a"+cut, len(cut)+1)
	}
}

// Each number of four digits is its character, but for the halves of pairs.
func TestObjectOfCharactersByNumber(t *testing.T) {
	for c := range 0x10000 {
		s := fmt.Sprintf(`{"%04x":"\u%04X"}`, c, c)
		list, at, e := front.Object(s)
		if c >= 0xd800 && c <= 0xdfff {
			if at != 9 || e != api.ErrForm || list != nil {
				t.Fatal(s, list, at, e)
			}
			continue
		}
		if at != 0 || e != api.OK || len(list) != 1 || list[0].Value != `"`+string(rune(c)) {
			t.Fatal(s, list, at, e)
		}
	}
	for _, pair := range []string{`\ud83d\ude00`, `\ude00\ud83d`, `\ud800`, `\udbff`, `\udc00`, `\uDFFF`, `\uDfFf`} {
		wantTextFault(t, pair, 0)
		wantTextFault(t, pair+`":1}`, 0)
		wantTextFault(t, "xyz"+pair+`"}`, 3)
	}
}

func TestObjectOfBytesInTexts(t *testing.T) {
	for c := range 256 {
		s := string([]byte{byte(c)})
		switch {
		case c == '"' || c == '\\':
		case c < 32 || c > 127:
			for _, behind := range []string{"", "x", `"`, `":1}`} {
				wantTextFault(t, s+behind, 0)
				wantTextFault(t, "é"+s+behind, 2)
			}
		default:
			wantText(t, s, s)
			wantText(t, "a"+s+"b", "a"+s+"b")
		}
	}
	for _, text := range []string{"é", "日本", "\U0001f600", "\u0080", "\u07ff", "\u0800", "\ud7ff", "\ue000", "\ufffd", "\uffff", "\U00010000", "\U0010ffff", "\u2028", "\x7f"} {
		wantText(t, text, text)
		wantText(t, "a"+text+"b", "a"+text+"b")
	}
	// Bytes that belong to no character, wherever they end.
	for _, bad := range []string{"\xc3", "\xe6", "\xe6\x97", "\xf0\x9f", "\xf0\x9f\x98", "\xc0\x80", "\xed\xa0\x80", "\xed\xbf\xbf", "\xf4\x90\x80\x80", "\xe0\x80\x80", "\x80", "\xbf\xbf"} {
		for _, behind := range []string{"", `"`, "a", `":1}`, "é", `\n`} {
			wantTextFault(t, bad+behind, 0)
			wantTextFault(t, "ab"+bad+behind, 2)
			wantTextFault(t, "\ufffd"+bad+behind, 3)
		}
	}
	wantFault(t, "\xff", 0, api.ErrForm)
	wantFault(t, "{\xc3\xa9", 1, api.ErrForm)
	wantFault(t, "{}\xff", 2, api.ErrForm)
}

func TestObjectOfNumbers(t *testing.T) {
	for _, number := range []string{"0", "1", "9", "10", "-1", "-9", "-10", "100", "123456789012345", "-123456789012345", "999999999999999", "-999999999999999", "100000000000000"} {
		wantFields(t, `{"k":`+number+`}`, api.Pair{Key: "k", Value: number})
		wantFields(t, `{"k": `+number+` ,"l":"" }`, api.Pair{Key: "k", Value: number}, api.Pair{Key: "l", Value: `"`})
		wantFault(t, `{"k":`+number, 5+len(number), api.ErrForm)
		for _, behind := range []string{"-", ".", ".5", "e1", "E1", "x", `"`, " 1", ":", "_", "+"} {
			at := 5 + len(number) + len(behind) - len(strings.TrimLeft(behind, " "))
			wantFault(t, `{"k":`+number+behind+`}`, at, api.ErrForm)
		}
	}
	for number, at := range map[string]int{
		"00": 1, "01": 1, "0123": 1, "-": 1, "-0": 1, "-01": 1, "--1": 1, "-x": 1, "- 1": 1, "+1": 0, ".5": 0, "1234567890123456": 15, "-1234567890123456": 16, "1000000000000000": 15, "99999999999999999999999": 15,
		"true": 0, "null": 0, "NaN": 0, "{}": 0, "[]": 0, "'x'": 0, "": 0, ",": 0, "}": 0, ":1": 0, "\\": 0, "\xff": 0, "١": 0,
	} {
		wantFault(t, `{"k":`+number+`}`, 5+at, api.ErrForm)
		wantFault(t, `{"k":`+number+`,"k":1}`, 5+at, api.ErrForm)
	}
	wantFault(t, `{"k":-`, 6, api.ErrForm)
	wantFault(t, `{"k":`, 5, api.ErrForm)
}

// All short texts of some bytes behind beginnings of each kind.
func TestObjectOfAllShortTexts(t *testing.T) {
	for _, begin := range []string{"", "{", `{"`, `{"a"`, `{"a":`, `{"a":"`, `{"a":"\u00`, `{"a":"\ud`, `{"a":1`, `{"a":-`, `{"a":1,`, `{"a":1,"`, `{}`} {
		texts := []string{""}
		for _, text := range texts {
			holdObject(t, begin+text)
		}
		for range 3 {
			var longer []string
			for _, text := range texts {
				for _, c := range []string{"{", "}", `"`, ":", ",", `\`, "u", "a", "d", "8", "0", "-", " "} {
					longer = append(longer, text+c)
				}
			}
			for _, text := range longer {
				list, at, e := front.Object(begin + text)
				wantList, wantAt, wantE := toldObject(begin + text)
				if at != wantAt || e != wantE || !samePairs(list, wantList) {
					t.Fatalf("Object of %q is %q, %d, %d, want %q, %d, %d", begin+text, list, at, e, wantList, wantAt, wantE)
				}
			}
			texts = longer
		}
	}
}

// randomBody is a body, most often a right one.
func randomBody(r *rand.Rand) string {
	blank := func() string {
		return []string{"", "", "", " ", "\t\n", "\r"}[r.Intn(6)]
	}
	text := func(chars ...string) string {
		s := `"`
		for range r.Intn(4) {
			s += chars[r.Intn(len(chars))]
		}
		return s + `"`
	}
	chars := []string{"a", "b", "é", "\U0001f600", `\n`, `\"`, `\\`, `\/`, `\u0061`, `\u00E9`, `\uffff`, "\x7f", " ", ":", "{", "}", ",", "'"}
	fields := []string{}
	for range []int{0, 1, 2, 3, 5, 15, 16, 17, 20}[r.Intn(9)] {
		name := text(chars...)
		if r.Intn(10) > 0 {
			name = fmt.Sprintf(`"%d%s`, len(fields), name[1:])
		}
		value := text(chars...)
		if r.Intn(2) == 0 {
			value = []string{"0", "1", "-1", "12", "123456789012345", "-999999999999999"}[r.Intn(6)]
		}
		fields = append(fields, blank()+name+blank()+":"+blank()+value+blank())
	}
	return blank() + "{" + blank() + strings.Join(fields, ",") + blank() + "}" + blank()
}

func TestObjectOfManyBodies(t *testing.T) {
	r := rand.New(rand.NewSource(132))
	seen := map[api.Errno]int{}
	for range 8000 {
		s := randomBody(r)
		for r.Intn(2) == 0 && len(s) > 0 {
			at := r.Intn(len(s))
			switch r.Intn(4) {
			case 0:
				s = s[:at]
			case 1:
				s = s[:at] + s[at+1:]
			case 2:
				s = s[:at] + []string{`"`, `\`, "{", "}", ":", ",", "-", "0", "7", " ", "u", "\xff", "\xe6", "\x00", "\n", "é", `\ud812`}[r.Intn(17)] + s[at:]
			case 3:
				s = s[:at] + string([]byte{byte(r.Intn(256))}) + s[at+1:]
			}
		}
		seen[holdObject(t, s)]++
	}
	for _, e := range []api.Errno{api.OK, api.ErrForm, api.ErrTwice, api.ErrMany} {
		if seen[e] < 50 {
			t.Fatal("too few of an answer: ", seen)
		}
	}
}

// R1: a long body is read, too.
func TestObjectOfLongBodies(t *testing.T) {
	long := strings.Repeat("é", 1<<20)
	list, at, e := front.Object(`{"` + long + `":"` + long + `"}`)
	if len(list) != 1 || list[0].Key != long || list[0].Value != `"`+long || at != 0 || e != api.OK {
		t.Fatal(len(list), at, e)
	}
	blanks := strings.Repeat(" ", 1<<20)
	if list, at, e := front.Object(blanks + "{" + blanks + "}" + blanks); len(list) != 0 || at != 0 || e != api.OK {
		t.Fatal(list, at, e)
	}
	if list, at, e := front.Object(blanks); len(list) != 0 || at != 1<<20 || e != api.ErrForm {
		t.Fatal(list, at, e)
	}
	if list, at, e := front.Object(strings.Repeat("{", 1<<20)); len(list) != 0 || at != 1 || e != api.ErrForm {
		t.Fatal(list, at, e)
	}
}

// R2: what is answered is the caller's: it may be changed, its spare room too.
func TestObjectAnswersNewMemory(t *testing.T) {
	s := `{"a":1,"b":"2","c":3}`
	one, _, _ := front.Object(s)
	two, _, _ := front.Object(s)
	one = one[:cap(one)]
	for i := range one {
		one[i] = api.Pair{Key: "x", Value: "y"}
	}
	if want := []api.Pair{{Key: "a", Value: "1"}, {Key: "b", Value: `"2`}, {Key: "c", Value: "3"}}; !slices.Equal(two, want) {
		t.Fatal(two)
	}
	wantFields(t, s, two...)
}

// Field, Int, Text

func TestFieldIntText(t *testing.T) {
	type told struct {
		value   string
		there   bool
		n       int
		number  bool
		text    string
		written bool
	}
	list, _, e := front.Object(`{"a":"x","b":-5,"c":"5","d":"","e":0,"":7,"f":"\"q","g":999999999999999,"h":-999999999999999}`)
	if e != api.OK {
		t.Fatal(e)
	}
	list = append(list, api.Pair{Key: "a", Value: "8"}, api.Pair{Key: "b", Value: `"z`})
	before := slices.Clone(list)
	for name, want := range map[string]told{
		"a": {`"x`, true, 0, false, "x", true},
		"b": {"-5", true, -5, true, "", false},
		"c": {`"5`, true, 0, false, "5", true},
		"d": {`"`, true, 0, false, "", true},
		"e": {"0", true, 0, true, "", false},
		"":  {"7", true, 7, true, "", false},
		"f": {`""q`, true, 0, false, `"q`, true},
		"g": {"999999999999999", true, 999999999999999, true, "", false},
		"h": {"-999999999999999", true, -999999999999999, true, "", false},
		"z": {}, "A": {}, "aa": {}, " ": {}, `"a`: {},
	} {
		var got told
		got.value, got.there = front.Field(list, name)
		got.n, got.number = front.Int(list, name)
		got.text, got.written = front.Text(list, name)
		if got != want {
			t.Fatalf("%q: %+v, want %+v", name, got, want)
		}
		for _, none := range [][]api.Pair{nil, {}} {
			value, there := front.Field(none, name)
			n, number := front.Int(none, name)
			text, written := front.Text(none, name)
			if value != "" || there || n != 0 || number || text != "" || written {
				t.Fatalf("%q of no fields: %q %v %d %v %q %v", name, value, there, n, number, text, written)
			}
		}
	}
	if !slices.Equal(list, before) {
		t.Fatal(list)
	}
}

// R1: Values that Object doesn't make are looked at without a panic, and no one of them is both a number and a text.
func TestFieldsOfOtherValues(t *testing.T) {
	for _, value := range []string{"", "-", "x", "+", "1.5", "99999999999999999999999", "\xff", "\"\xff", " 1", "--1", `""`} {
		list := []api.Pair{{Key: "k", Value: value}}
		got, there := front.Field(list, "k")
		n, number := front.Int(list, "k")
		_, text := front.Text(list, "k")
		if got != value || !there || n != 0 || number || text != strings.HasPrefix(value, `"`) {
			t.Fatalf("%q: %q %v %d %v %v", value, got, there, n, number, text)
		}
	}
}

// Fields

func TestFieldsStoppedAnywhere(t *testing.T) {
	for n := range 17 {
		fields := front.Fields(many(n) + "}")
		for stop := range n + 1 {
			for range 2 {
				told := 0
				for name, value := range fields {
					if name != fmt.Sprint("f", told) || value != fmt.Sprint(told) {
						t.Fatal(n, stop, name, value)
					}
					if told++; told == stop {
						break
					}
				}
				want := stop
				if stop == 0 {
					want = n
				}
				if told != want {
					t.Fatal(n, stop, told)
				}
			}
		}
	}
	for _, s := range []string{"", "{", "[]", `{"a":1`, `{"a":1}x`, `{"a":1,"a":2}`, many(17) + "}", `{"a":1,"b":01}`} {
		for name, value := range front.Fields(s) {
			t.Fatalf("%q tells %q, %q", s, name, value)
		}
	}
}
