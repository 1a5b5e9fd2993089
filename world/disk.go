// Package world is layer 1: stand-ins for what lies outside the program: a disk that can fail and lose, a net, a clock. See shared/doc/01-world.md.
package world

import (
	"bytes"
	"maps"
	"math"
	"slices"

	"tiller/api"
)

// never is a count of operations that no Disk comes to.
const never = math.MaxInt

// halfKind is the kind of a fault that lets half of an Append through.
const halfKind = 2

// content is a file's; it is never without bytes, for a Disk forgets a file that is.
type content struct {
	bytes []byte
	kept  int
}

// Disk is files that can fail and be lost.
type Disk struct {
	files  map[int]content
	ops    int
	stopAt int         // from this count of operations on it is stopped
	faults map[int]int // by the count of operations ahead of the one that is struck: the kind
}

// NewDisk makes an empty one.
func NewDisk() *Disk {
	return &Disk{files: map[int]content{}, faults: map[int]int{}, stopAt: never}
}

// Append puts bytes at a file's end.
func (d *Disk) Append(file int, b []byte) api.Errno {
	refusal, kind := d.begin(file)
	if refusal == api.OK {
		d.put(file, b)
	}
	if refusal == api.ErrIO && kind == halfKind && file >= 0 {
		d.put(file, b[:len(b)/2])
	}
	return refusal
}

// Sync keeps a file's bytes.
func (d *Disk) Sync(file int) api.Errno {
	refusal, _ := d.begin(file)
	if refusal != api.OK {
		return refusal
	}
	if f, there := d.files[file]; there {
		f.kept = len(f.bytes)
		d.files[file] = f
	}
	return api.OK
}

// Delete takes a file away, durably.
func (d *Disk) Delete(file int) api.Errno {
	refusal, _ := d.begin(file)
	if refusal == api.OK {
		delete(d.files, file)
	}
	return refusal
}

// Read is a file's bytes.
func (d *Disk) Read(file int) []byte {
	return bytes.Clone(d.files[file].bytes)
}

// Kept is how many of a file's bytes are durable.
func (d *Disk) Kept(file int) int {
	return d.files[file].kept
}

// Files are the numbers of all files, rising.
func (d *Disk) Files() []int {
	return slices.Sorted(maps.Keys(d.files))
}

// Ops is how many operations there were.
func (d *Disk) Ops() int {
	return d.ops
}

// Fail lays a fault in wait. Of those that will strike one operation only the first laid counts, so no other is kept.
func (d *Disk) Fail(after, kind int) {
	at := d.behind(after)
	if _, laid := d.faults[at]; !laid {
		d.faults[at] = kind
	}
}

// Stop lets all operations fail behind some further ones.
func (d *Disk) Stop(after int) {
	d.stopAt = d.behind(after)
}

// Crash loses what was not kept, but for what cuts leave.
func (d *Disk) Crash(cuts []int) {
	left := d.Files()
next:
	if len(left) > 0 {
		cut := 0
		if len(cuts) > 0 {
			cut = cuts[0]
			cuts = cuts[1:]
		}
		d.lose(left[0], cut)
		left = left[1:]
		goto next
	}
	clear(d.faults)
	d.stopAt = never
}

// begin counts an operation and spends the fault that strikes it; it answers what refuses the operation and, of ErrIO, the fault's kind.
func (d *Disk) begin(file int) (api.Errno, int) {
	ahead := d.ops
	d.ops++
	kind, struck := d.faults[ahead]
	delete(d.faults, ahead)
	switch {
	case ahead >= d.stopAt:
		return api.ErrDead, 0
	case struck:
		return api.ErrIO, kind
	case file < 0:
		return api.ErrArg, 0
	}
	return api.OK, 0
}

// put lays bytes at a file's end; none make no file, for one without bytes is not there.
func (d *Disk) put(file int, b []byte) {
	if len(b) == 0 {
		return
	}
	f := d.files[file]
	f.bytes = append(f.bytes, b...)
	d.files[file] = f
}

// behind is the count of operations that is reached behind some further ones; a sum beyond all numbers is never reached.
func (d *Disk) behind(after int) int {
	if after > never-d.ops {
		return never
	}
	return d.ops + max(after, 0)
}

// lose leaves a file what is kept and as much of the rest as the cut says.
func (d *Disk) lose(number, cut int) {
	f := d.files[number]
	k := remainder(cut, 2*(len(f.bytes)-f.kept)+1)
	f.kept += (k + 1) / 2
	if f.kept == 0 {
		delete(d.files, number)
		return
	}
	f.bytes = f.bytes[:f.kept]
	if k > 0 && k%2 == 0 {
		f.bytes[f.kept-1] = 255 - f.bytes[f.kept-1]
	}
	d.files[number] = f
}

// remainder is that of 0 or more, whatever the sign of n.
func remainder(n, by int) int {
	r := n % by
	if r < 0 {
		r += by
	}
	return r
}
