package codec

import (
	"bytes"
	"iter"

	"tiller/api"
)

// headSize is how many bytes of a frame lie ahead of its payload: the length and the Sum, four each.
const headSize = 8

// Frame lays a payload into a frame.
func Frame(payload []byte) []byte {
	raw := make([]byte, 0, headSize+len(payload))
	raw = appendWord(raw, uint32(len(payload)))
	raw = appendWord(raw, Sum(payload))
	return append(raw, payload...)
}

func appendWord(raw []byte, word uint32) []byte {
	return append(raw, byte(word>>24), byte(word>>16), byte(word>>8), byte(word))
}

func wordAt(raw []byte, at int) uint32 {
	return uint32(raw[at])<<24 | uint32(raw[at+1])<<16 | uint32(raw[at+2])<<8 | uint32(raw[at+3])
}

// Unframe reads the frame at the front.
func Unframe(raw []byte) (payload []byte, size int, e api.Errno) {
	if len(raw) < headSize {
		return nil, 0, api.ErrForm
	}
	length := wordAt(raw, 0)
	if length > api.MaxRecord || int(length) > len(raw)-headSize {
		return nil, 0, api.ErrForm
	}
	size = headSize + int(length)
	if Sum(raw[headSize:size]) != wordAt(raw, 4) {
		return nil, 0, api.ErrForm
	}
	return bytes.Clone(raw[headSize:size]), size, api.OK
}

// Sum is the sum of bytes.
func Sum(b []byte) uint32 {
	s := ^uint32(0)
	for _, v := range b {
		s ^= uint32(v)
		for range 8 {
			odd := s & 1
			s = s>>1 ^ odd*0xEDB88320
		}
	}
	return ^s
}

// Frames tells the frames from the front on. It goes over a copy, since raw may have changed when it is ranged over.
func Frames(raw []byte) iter.Seq2[int, []byte] {
	kept := bytes.Clone(raw)
	return func(yield func(int, []byte) bool) {
		at := 0
		for {
			payload, size, e := Unframe(kept[at:])
			if e != api.OK || !yield(at, payload) {
				return
			}
			at += size
		}
	}
}
