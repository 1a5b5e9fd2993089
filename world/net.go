package world

import (
	"bytes"
	"iter"
	"slices"

	"tiller/api"
)

// Net is parcels under way, in a row. The bytes of a parcel in the row are never changed, so parcels there may share them.
type Net struct {
	row  []api.Parcel
	most int
}

// NewNet makes an empty one.
func NewNet(most int) *Net {
	return &Net{most: most}
}

// Send puts a parcel under way.
func (n *Net) Send(p api.Parcel) bool {
	if n.full() {
		return false
	}
	n.row = append(n.row, copied(p))
	return true
}

// Len is how many are under way.
func (n *Net) Len() int {
	return len(n.row)
}

// Look tells a parcel.
func (n *Net) Look(i int) (api.Parcel, bool) {
	if !n.has(i) {
		return api.Parcel{}, false
	}
	return copied(n.row[i]), true
}

// Take takes a parcel out.
func (n *Net) Take(i int) (api.Parcel, bool) {
	p, there := n.Look(i)
	n.Drop(i)
	return p, there
}

// Drop loses a parcel.
func (n *Net) Drop(i int) bool {
	if !n.has(i) {
		return false
	}
	n.row = slices.Delete(n.row, i, i+1)
	return true
}

// Double puts a copy of a parcel under way.
func (n *Net) Double(i int) bool {
	if !n.has(i) || n.full() {
		return false
	}
	n.row = append(n.row, n.row[i])
	return true
}

// All tells the parcels as they stand when it is ranged over: the row is copied first, for whoever ranges may change the net meanwhile.
func (n *Net) All() iter.Seq2[int, api.Parcel] {
	return func(yield func(int, api.Parcel) bool) {
		for i, p := range slices.All(slices.Clone(n.row)) {
			if !yield(i, copied(p)) {
				return
			}
		}
	}
}

// full also holds of a net whose most is below 0.
func (n *Net) full() bool {
	return len(n.row) >= n.most
}

func (n *Net) has(i int) bool {
	return i >= 0 && i < len(n.row)
}

// copied shares no memory with the parcel that comes in.
func copied(p api.Parcel) api.Parcel {
	p.Bytes = bytes.Clone(p.Bytes)
	return p
}
