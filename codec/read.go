package codec

import "tiller/api"

// mostBytes is how many bytes a number may say that it needs.
const mostBytes = 7

// reader goes through raw from the front. Each step says whether it found its part; a step that did not leaves the reader at the fault.
type reader struct {
	raw   []byte
	at    int
	wrong bool
}

// refuse ends the reading at a fault.
func (r *reader) refuse(at int) bool {
	r.at, r.wrong = at, true
	return false
}

// take steps over the next bytes.
func (r *reader) take(size int) ([]byte, bool) {
	if size > len(r.raw)-r.at {
		return nil, r.refuse(len(r.raw))
	}
	from := r.at
	r.at += size
	return r.raw[from:r.at], true
}

func (r *reader) number(n *int, least, most int) bool {
	start, value := r.at, 0
	count, there := r.take(1)
	if !there {
		return false
	}
	if count[0] > mostBytes {
		return r.refuse(start)
	}
	digits, there := r.take(int(count[0]))
	if !there {
		return false
	}
	for _, digit := range digits {
		value = value<<8 | int(digit)
	}
	if len(digits) > 0 && digits[0] == 0 || value < least || value > most {
		return r.refuse(start)
	}
	*n = value
	return true
}

func (r *reader) signed(n *int) bool {
	var twice int
	if !r.number(&twice, 0, api.MaxNumber) {
		return false
	}
	*n = twice / 2
	if twice%2 == 1 {
		*n = -*n - 1
	}
	return true
}

func (r *reader) text(s *string) bool {
	var size int
	if !r.number(&size, 0, api.MaxRecord) {
		return false
	}
	b, there := r.take(size)
	*s = string(b)
	return there
}

func (r *reader) flag(set *bool) bool {
	b, there := r.take(1)
	if !there {
		return false
	}
	if b[0] > 1 {
		return r.refuse(r.at - 1)
	}
	*set = b[0] == 1
	return true
}

func (r *reader) id(id *api.ID) bool {
	var re, im int
	if !r.number(&re, 0, api.MaxNumber) || !r.number(&im, 0, api.MaxNumber) {
		return false
	}
	*id = whole(re, im)
	return true
}

// mail reads one that may be none: then just its Kind, 0.
func (r *reader) mail(m *api.Mail) bool {
	if !r.number(&m.Kind, 0, api.MailCancel) {
		return false
	}
	if m.Kind == 0 {
		return true
	}
	return r.text(&m.To) && r.text(&m.From) && r.text(&m.Node) && r.text(&m.Name) && r.text(&m.Text) && r.number(&m.Status, 0, api.Canceled)
}

func (r *reader) node(n *api.NodeState) bool {
	return r.number(&n.Status, api.Idle, api.Bad) && r.number(&n.Try, 0, api.MaxNumber) && r.text(&n.Text)
}

func (r *reader) signal(s *api.Signal) bool {
	return r.text(&s.Name) && r.text(&s.Text)
}

func (r *reader) op(o *api.Op) bool {
	return r.text(&o.Key) && r.flag(&o.Gone) && (o.Gone || r.text(&o.Value))
}

// readList reads how many there are, then each. Room is made as they come: a list may say more than is there.
func readList[T any](r *reader, l *[]T, one func(*reader, *T) bool) bool {
	var many int
	if !r.number(&many, 0, api.MaxNumber) {
		return false
	}
	for range many {
		var element T
		if !one(r, &element) {
			return false
		}
		*l = append(*l, element)
	}
	return true
}

// close refuses bytes that are left over.
func (r *reader) close() {
	if r.at < len(r.raw) {
		r.refuse(r.at)
	}
}

// outcome is what a reader of records says of what it read.
func outcome[T any](r *reader, record T) (T, int, api.Errno) {
	if r.wrong {
		var none T
		return none, r.at, api.ErrForm
	}
	return record, 0, api.OK
}

// ReadEvent reads an event.
func ReadEvent(raw []byte) (api.Event, int, api.Errno) {
	var e api.Event
	r := reader{raw: raw}
	if !r.number(&e.Kind, api.Started, api.Closed) {
		goto end
	}
	if !r.text(&e.Node) {
		goto end
	}
	if !r.text(&e.Text) {
		goto end
	}
	if !r.signed(&e.Number) {
		goto end
	}
	r.close()
end:
	return outcome(&r, e)
}

// ReadTask reads a task.
func ReadTask(raw []byte) (api.Task, int, api.Errno) {
	var t api.Task
	r := reader{raw: raw}
	if !r.number(&t.Kind, api.Dispatch, api.Message) {
		goto end
	}
	if !r.id(&t.ID) {
		goto end
	}
	if !r.text(&t.Flow) {
		goto end
	}
	if !r.text(&t.Node) {
		goto end
	}
	if !r.number(&t.Try, 0, api.MaxNumber) {
		goto end
	}
	if !r.number(&t.At, 0, api.MaxNumber) {
		goto end
	}
	if !r.mail(&t.Mail) {
		goto end
	}
	r.close()
end:
	return outcome(&r, t)
}

// ReadEnvelope reads an envelope.
func ReadEnvelope(raw []byte) (api.Envelope, int, api.Errno) {
	var e api.Envelope
	r := reader{raw: raw}
	if !r.number(&e.Kind, api.EnvMail, api.EnvAck) {
		goto end
	}
	if !r.number(&e.From, 0, api.MaxNumber) {
		goto end
	}
	if !r.number(&e.To, 0, api.MaxNumber) {
		goto end
	}
	if !r.number(&e.Seq, 0, api.MaxNumber) {
		goto end
	}
	if !r.mail(&e.Mail) {
		goto end
	}
	r.close()
end:
	return outcome(&r, e)
}

// ReadLease reads a lease.
func ReadLease(raw []byte) (api.Lease, int, api.Errno) {
	var l api.Lease
	r := reader{raw: raw}
	if !r.signed(&l.Owner) {
		goto end
	}
	if !r.number(&l.Range, 0, api.MaxNumber) {
		goto end
	}
	r.close()
end:
	return outcome(&r, l)
}

// ReadState reads a workflow's state.
func ReadState(raw []byte) (api.State, int, api.Errno) {
	var s api.State
	r := reader{raw: raw}
	if !r.text(&s.Def) {
		goto end
	}
	if !r.text(&s.ID) {
		goto end
	}
	if !r.text(&s.Parent) {
		goto end
	}
	if !r.text(&s.ParentNode) {
		goto end
	}
	if !r.number(&s.Status, 0, api.Canceled) {
		goto end
	}
	if !r.text(&s.Text) {
		goto end
	}
	if !readList(&r, &s.Nodes, (*reader).node) {
		goto end
	}
	if !readList(&r, &s.Signals, (*reader).signal) {
		goto end
	}
	if !r.number(&s.Events, 0, api.MaxNumber) {
		goto end
	}
	r.close()
end:
	return outcome(&r, s)
}

// ReadOps reads a store's changes.
func ReadOps(raw []byte) ([]api.Op, int, api.Errno) {
	var l []api.Op
	r := reader{raw: raw}
	if !readList(&r, &l, (*reader).op) {
		goto end
	}
	r.close()
end:
	return outcome(&r, l)
}

// ReadNumber reads a number at the front: it, and how many bytes it has.
func ReadNumber(raw []byte) (int, int, api.Errno) {
	var n int
	r := reader{raw: raw}
	if !r.number(&n, 0, api.MaxNumber) {
		return 0, r.at, api.ErrForm
	}
	return n, r.at, api.OK
}
