package disk

import (
	"maps"
	"slices"

	"goit/api"
)

// begin counts an operation, and tells whether it fails ahead of all else.
func (d *Disk) begin() api.Errno {
	if d == nil {
		return api.ErrArg
	}
	d.ops++
	if d.fail == 0 {
		return api.OK
	}
	d.fail--
	if d.fail == 0 {
		return api.ErrFault
	}
	return api.OK
}

// beginOn begins an operation on a file that must be there.
func (d *Disk) beginOn(name string) (*file, api.Errno) {
	if e := d.begin(); e != api.OK {
		return nil, e
	}
	if d.names[name] == nil {
		return nil, api.ErrNone
	}
	return d.names[name], api.OK
}

// Fail makes the nth operation from now on fail; below 1: none.
func (d *Disk) Fail(n int) {
	if d != nil {
		d.fail = max(n, 0)
	}
}

// Ops is how many operations were asked for.
func (d *Disk) Ops() int {
	if d == nil {
		return 0
	}
	return d.ops
}

// Append puts b behind the bytes of a file, which is made if there is none.
func (d *Disk) Append(name string, b []byte) api.Errno {
	if e := d.begin(); e != api.OK {
		return e
	}
	if !isName(name) {
		return api.ErrArg
	}
	f := d.names[name]
	if !d.room(f, len(b)) {
		return api.ErrQuota
	}
	if f == nil {
		f = &file{}
		d.change(change{kind: made, name: name, file: f})
	}
	f.b = append(f.b, b...)
	return api.OK
}

// room tells whether n bytes more may stand in f (nil: in a new file).
func (d *Disk) room(f *file, n int) bool {
	if d.Size()+n > d.quota {
		return false
	}
	if f == nil {
		return n <= api.MaxFile && len(d.names) < api.MaxFiles
	}
	return len(f.b)+n <= api.MaxFile
}

func isName(name string) bool { return len(name) >= 1 && len(name) <= api.MaxName }

// Sync makes sure the bytes of a file.
func (d *Disk) Sync(name string) api.Errno {
	f, e := d.beginOn(name)
	if e != api.OK {
		return e
	}
	f.sure = len(f.b)
	return api.OK
}

// Cut takes the bytes of a file from n on away.
func (d *Disk) Cut(name string, n int) api.Errno {
	f, e := d.beginOn(name)
	if e != api.OK {
		return e
	}
	if n < 0 || n > len(f.b) {
		return api.ErrArg
	}
	f.keep(n)
	return api.OK
}

// keep leaves the first n bytes, all of them sure.
func (f *file) keep(n int) {
	f.b, f.sure = f.b[:n], n
}

// Rename gives a file another name.
func (d *Disk) Rename(from, to string) api.Errno {
	if _, e := d.beginOn(from); e != api.OK {
		return e
	}
	if !isName(to) {
		return api.ErrArg
	}
	if from != to {
		d.change(change{kind: renamed, name: from, to: to})
	}
	return api.OK
}

// Remove takes the name of a file away.
func (d *Disk) Remove(name string) api.Errno {
	if _, e := d.beginOn(name); e != api.OK {
		return e
	}
	d.change(change{kind: removed, name: name})
	return api.OK
}

// SyncDir makes all changes of names sure.
func (d *Disk) SyncDir() api.Errno {
	if e := d.begin(); e != api.OK {
		return e
	}
	d.settle(len(d.changes))
	return api.OK
}

// Crash forgets what was not made sure, but for as much of it as picks say.
func (d *Disk) Crash(picks []byte) {
	if d == nil {
		return
	}
	p := chosen(picks)
	d.settle(p.next(len(d.changes)))
	d.names = maps.Clone(d.sure)
	for _, name := range slices.Sorted(maps.Keys(d.names)) {
		f := d.names[name]
		f.keep(f.sure + p.next(len(f.b)-f.sure))
	}
	d.fail = 0
}

// chosen is what is left of the picks of a crash.
type chosen []byte

// next is a number from 0 to most.
func (p *chosen) next(most int) int {
	if len(*p) == 0 {
		return 0
	}
	n := int((*p)[0]) % (most + 1)
	*p = (*p)[1:]
	return n
}
