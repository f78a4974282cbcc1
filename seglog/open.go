package seglog

import (
	"goit/api"
	"goit/disk"
	"goit/frame"
	"goit/manifest"
)

// Open tells each what the log on a disk has, and makes it sure.
func Open(d *disk.Disk, size int, each func(f api.Frame) api.Errno) (*Log, api.Errno) {
	if d == nil {
		return nil, api.ErrArg
	}
	b, ok := d.Read(counting)
	if !ok {
		return nil, api.ErrNone
	}
	m, e := manifest.Decode(b)
	if e != api.OK {
		return nil, e
	}
	l := &Log{d: d, size: within(size), m: m}
	r := &reading{version: m.Version, each: each}
	whole, torn, e := l.tell(r.frame)
	if e != api.OK {
		return nil, e
	}
	e = inOrder(
		func() api.Errno { return l.mend(whole, torn) },
		func() api.Errno { return l.sync(l.last()) },
		d.SyncDir,
	)
	if e != api.OK {
		return nil, e
	}
	return l, api.OK
}

// reading is who reads a log of one version.
type reading struct {
	version int
	each    func(f api.Frame) api.Errno
}

// frame hands a frame on. An each that panics is an argument that may not be.
func (r *reading) frame(f api.Frame) (e api.Errno) {
	defer func() {
		if recover() != nil {
			e = api.ErrArg
		}
	}()
	if f.Version != r.version {
		return api.ErrForm
	}
	if r.each == nil {
		return api.OK
	}
	return r.each(f)
}

// tell tells all frames; of the last segment, how many bytes its frames have, and whether more stands behind.
func (l *Log) tell(each func(f api.Frame) api.Errno) (whole int, torn bool, e api.Errno) {
	for _, seg := range l.m.Segs {
		whole, torn, e = l.tellOne(seg, each)
		if e != api.OK {
			return 0, false, e
		}
	}
	return whole, torn, api.OK
}

func (l *Log) tellOne(seg int, each func(f api.Frame) api.Errno) (int, bool, api.Errno) {
	b, ok := l.d.Read(manifest.Name(seg))
	if !ok {
		return 0, false, api.ErrNone
	}
	frames, whole, why := frame.Scan(b)
	torn := why != api.OK
	if torn && seg != l.last() {
		return 0, false, api.ErrForm
	}
	for _, f := range frames {
		if e := each(f); e != api.OK {
			return 0, false, e
		}
	}
	return whole, torn, api.OK
}

// mend takes away what a crash has left behind the frames of the last segment.
func (l *Log) mend(whole int, torn bool) api.Errno {
	if !torn {
		return api.OK
	}
	return l.d.Cut(manifest.Name(l.last()), whole)
}
