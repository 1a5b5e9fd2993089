package wal

import (
	"tiller/api"
	"tiller/codec"
)

// frameHead is how many bytes a frame has beside its payload.
const frameHead = 8

// content is what a log tells.
type content struct {
	first   int
	records [][]byte
	weight  int // how many bytes the records' frames have
}

func (c content) next() int {
	return c.first + len(c.records)
}

// changed is the content that begins at first and has these records more. They may come to lie in the spare room behind c's, where nobody looks who has c.
func (c content) changed(first int, added [][]byte) content {
	gone := c.records[:first-c.first]
	return content{
		first:   first,
		records: append(c.records[len(gone):], added...),
		weight:  c.weight - weigh(gone) + weigh(added),
	}
}

func weigh(records [][]byte) int {
	weight := 0
	for _, record := range records {
		weight += frameHead + len(record)
	}
	return weight
}

// A file that holds content is a row of entries. An entry says from which index on the content begins now, and which records it has more: a head, then a frame for each of the records, since one of them may fill a frame alone.
type head struct {
	generation, first, count int
}

func entry(generation, first int, added [][]byte) []byte {
	raw := row(generation, first, len(added))
	for _, record := range added {
		raw = append(raw, codec.Frame(record)...)
	}
	return raw
}

// readHead reads the head at the front, and tells how many bytes it has.
func readHead(raw []byte) (head, int, bool) {
	var numbers [3]int
	size, whole := readRow(raw, numbers[:])
	return head{numbers[0], numbers[1], numbers[2]}, size, whole
}

// row is numbers in a frame.
func row(numbers ...int) []byte {
	var payload []byte
	for _, n := range numbers {
		raw, _ := codec.Number(n)
		payload = append(payload, raw...)
	}
	return codec.Frame(payload)
}

// readRow reads the row at the front, of just so many numbers, and tells how many bytes it has.
func readRow(raw []byte, numbers []int) (int, bool) {
	payload, size, refusal := codec.Unframe(raw)
	if refusal != api.OK {
		return 0, false
	}
	for i := range numbers {
		n, length, refusal := codec.ReadNumber(payload)
		if refusal != api.OK {
			return 0, false
		}
		numbers[i] = n
		payload = payload[length:]
	}
	return size, len(payload) == 0
}

// load takes what counts of the log's files.
func (l *Log) load() {
	l.generation = max(1, l.oldest())
	raw := l.disk.Read(l.file(l.generation))
	counts, noted := l.readNote()
	if !noted {
		counts = len(raw)
	}
	l.held, l.size = scan(raw[:min(counts, len(raw))])
	l.spoilt = l.size < len(raw)
	l.noted = noted && counts == l.size && l.disk.Kept(l.note()) == len(l.disk.Read(l.note()))
}

// oldest is the lesser one of the files' generations; 0: there is none.
func (l *Log) oldest() int {
	oldest := 0
	for turn := range 2 {
		h, _, whole := readHead(l.disk.Read(l.file(turn)))
		if whole && (oldest == 0 || h.generation < oldest) {
			oldest = h.generation
		}
	}
	return oldest
}

// readNote is how many bytes count by a note on this generation; false, if there is none.
func (l *Log) readNote() (int, bool) {
	var numbers [2]int
	_, whole := readRow(l.disk.Read(l.note()), numbers[:])
	if !whole || numbers[0] != l.generation {
		return 0, false
	}
	return numbers[1], true
}

// scan reads a file's entries from the front on, up to the first that is not whole or does not follow from those ahead, and tells how many bytes they have.
func scan(raw []byte) (held content, size int) {
	for size < len(raw) {
		ahead := held
		h, length, whole := readHead(raw[size:])
		if size == 0 {
			ahead.first = h.first
		}
		if !whole || h.first < ahead.first || h.first > ahead.next() {
			goto end
		}
		at := size + length
		var added [][]byte
		for range h.count {
			record, length, refusal := codec.Unframe(raw[at:])
			if refusal != api.OK {
				goto end
			}
			added = append(added, record)
			at += length
		}
		held, size = ahead.changed(h.first, added), at
	}
end:
	return held, size
}
