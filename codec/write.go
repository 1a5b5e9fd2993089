// Package codec is layer 2: it writes all records as bytes, each in one form, reads them, and lays them into frames. See shared/doc/02-codec.md.
package codec

import (
	"math/bits"

	"tiller/api"
)

// writer gathers a record's bytes; once it met a part that is not right it gathers no more.
type writer struct {
	raw   []byte
	wrong bool
}

// answer is what a writer of records says of what was gathered.
func (w *writer) answer() ([]byte, api.Errno) {
	if w.wrong {
		return nil, api.ErrForm
	}
	return w.raw, api.OK
}

// refuse remembers that the record is not right, if this part of it is not.
func (w *writer) refuse(wrong bool) bool {
	w.wrong = w.wrong || wrong
	return w.wrong
}

func (w *writer) number(n, least, most int) {
	if w.refuse(n < least || n > most) {
		return
	}
	size := (bits.Len(uint(n)) + 7) / 8
	w.raw = append(w.raw, byte(size))
	for left := size - 1; left >= 0; left-- {
		w.raw = append(w.raw, byte(n>>(8*left)))
	}
}

func (w *writer) signed(n int) {
	// What is too great to be doubled wraps round to below 0, and is refused as well.
	if n < 0 {
		w.number(-2*n-1, 0, api.MaxNumber)
	} else {
		w.number(2*n, 0, api.MaxNumber)
	}
}

func (w *writer) text(s string) {
	w.number(len(s), 0, api.MaxRecord)
	if !w.wrong {
		w.raw = append(w.raw, s...)
	}
}

func (w *writer) flag(set bool) {
	if w.wrong {
		return
	}
	var b byte
	if set {
		b = 1
	}
	w.raw = append(w.raw, b)
}

func (w *writer) id(id api.ID) {
	re, im, right := parts(id)
	if w.refuse(!right) {
		return
	}
	w.number(re, 0, api.MaxNumber)
	w.number(im, 0, api.MaxNumber)
}

// mail writes one that may be none: then just its Kind, 0.
func (w *writer) mail(m api.Mail) {
	w.number(m.Kind, 0, api.MailCancel)
	if m.Kind == 0 {
		w.refuse(m != api.Mail{})
		return
	}
	w.text(m.To)
	w.text(m.From)
	w.text(m.Node)
	w.text(m.Name)
	w.text(m.Text)
	w.number(m.Status, 0, api.Canceled)
}

func (w *writer) node(n api.NodeState) {
	w.number(n.Status, api.Idle, api.Bad)
	w.number(n.Try, 0, api.MaxNumber)
	w.text(n.Text)
}

func (w *writer) signal(s api.Signal) {
	w.text(s.Name)
	w.text(s.Text)
}

func (w *writer) op(o api.Op) {
	w.text(o.Key)
	w.flag(o.Gone)
	if o.Gone {
		w.refuse(o.Value != "")
		return
	}
	w.text(o.Value)
}

// writeList writes how many there are, then each.
func writeList[T any](w *writer, l []T, one func(*writer, T)) {
	w.number(len(l), 0, api.MaxNumber)
	for _, element := range l {
		if w.wrong {
			return
		}
		one(w, element)
	}
}

// Event writes an event.
func Event(e api.Event) ([]byte, api.Errno) {
	var w writer
	w.number(e.Kind, api.Started, api.Closed)
	w.text(e.Node)
	w.text(e.Text)
	w.signed(e.Number)
	return w.answer()
}

// Task writes a task.
func Task(t api.Task) ([]byte, api.Errno) {
	var w writer
	w.number(t.Kind, api.Dispatch, api.Message)
	w.id(t.ID)
	w.text(t.Flow)
	w.text(t.Node)
	w.number(t.Try, 0, api.MaxNumber)
	w.number(t.At, 0, api.MaxNumber)
	w.mail(t.Mail)
	return w.answer()
}

// Envelope writes an envelope.
func Envelope(e api.Envelope) ([]byte, api.Errno) {
	var w writer
	w.number(e.Kind, api.EnvMail, api.EnvAck)
	w.number(e.From, 0, api.MaxNumber)
	w.number(e.To, 0, api.MaxNumber)
	w.number(e.Seq, 0, api.MaxNumber)
	w.mail(e.Mail)
	return w.answer()
}

// Lease writes a lease.
func Lease(l api.Lease) ([]byte, api.Errno) {
	var w writer
	w.signed(l.Owner)
	w.number(l.Range, 0, api.MaxNumber)
	return w.answer()
}

// State writes a workflow's state.
func State(s api.State) ([]byte, api.Errno) {
	var w writer
	w.text(s.Def)
	w.text(s.ID)
	w.text(s.Parent)
	w.text(s.ParentNode)
	w.number(s.Status, 0, api.Canceled)
	w.text(s.Text)
	writeList(&w, s.Nodes, (*writer).node)
	writeList(&w, s.Signals, (*writer).signal)
	w.number(s.Events, 0, api.MaxNumber)
	return w.answer()
}

// Ops writes a store's changes.
func Ops(l []api.Op) ([]byte, api.Errno) {
	var w writer
	writeList(&w, l, (*writer).op)
	return w.answer()
}

// Number writes a number.
func Number(n int) ([]byte, api.Errno) {
	var w writer
	w.number(n, 0, api.MaxNumber)
	return w.answer()
}
