package kv

import (
	"strings"

	"tiller/api"
	"tiller/codec"
)

const (
	mostKey   = 200                // bytes of a key
	mostValue = 65536              // bytes of a value
	mostOps   = api.MaxRecord - 64 // bytes of a batch's changes
	opHead    = 8                  // at least as many bytes as a change has beside key and value, or a list ahead of its changes
)

// content is what a store tells.
type content struct {
	fence int
	pairs *node
	count int // of the pairs
	bytes int // of their keys and values
}

// changed is the content behind a batch.
func (c content) changed(fence int, ops []api.Op) content {
	c.fence = fence
	for _, op := range ops {
		c = c.behind(op)
	}
	return c
}

// behind is the content behind a change. The texts are copied, since each may be a piece of a greater one, which would be kept with it.
func (c content) behind(op api.Op) content {
	if value, there := c.pairs.find(op.Key); there {
		c.count--
		c.bytes -= len(op.Key) + len(value)
	}
	if op.Gone {
		c.pairs = c.pairs.without(op.Key)
		return c
	}
	c.count++
	c.bytes += len(op.Key) + len(op.Value)
	c.pairs = c.pairs.with(api.Pair{Key: strings.Clone(op.Key), Value: strings.Clone(op.Value)})
	return c
}

// needs is about how many bytes a log of the content alone has.
func (c content) needs() int {
	return c.bytes + opHead*c.count
}

// wrong says whether a change is one that no batch may have.
func wrong(op api.Op) bool {
	return op.Key == "" || len(op.Key) > mostKey || len(op.Value) > mostValue || op.Gone && op.Value != ""
}

// record is a batch as the log has it: the fence, then the changes as codec writes them.
func record(fence int, changes []byte) []byte {
	raw, _ := codec.Number(fence)
	return append(raw, changes...)
}

// readRecord reads a batch; false of bytes that are none.
func readRecord(raw []byte) (fence int, ops []api.Op, whole bool) {
	fence, size, refusal := codec.ReadNumber(raw)
	if refusal != api.OK {
		return 0, nil, false
	}
	ops, _, refusal = codec.ReadOps(raw[size:])
	return fence, ops, refusal == api.OK
}
