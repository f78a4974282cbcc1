package seglog

import (
	"goit/api"
	"goit/frame"
	"goit/manifest"
)

// Swap puts rows in the place of all that the log has, wholly or not at all.
func (l *Log) Swap(version int, rows []api.Frame) api.Errno {
	if l.none() {
		return api.ErrArg
	}
	if !isVersion(version) {
		return api.ErrVersion
	}
	texts, e := encoded(rows)
	if e != api.OK {
		return e
	}
	if e := l.tighten(); e != api.OK {
		return e
	}
	old := l.m.Segs
	now := &image{log: l}
	e = inOrder(
		func() api.Errno { return now.fill(texts) },
		func() api.Errno { return l.count(now.manifest(version)) },
	)
	switch {
	case e == api.OK:
		l.forget(old)
	case !l.loose: // the image does not count: it never was
		l.forget(now.segs)
	}
	return e
}

// encoded is the bytes of each row.
func encoded(rows []api.Frame) ([][]byte, api.Errno) {
	var l [][]byte
	for _, f := range rows {
		b, e := frame.Put(f)
		if e != api.OK {
			return nil, e
		}
		l = append(l, b)
	}
	return l, api.OK
}

// forget removes segments, as far as the disk lets.
func (l *Log) forget(segs []int) {
	for _, seg := range segs {
		l.discard(manifest.Name(seg))
	}
}

// image is segments that do not count yet.
type image struct {
	log  *Log
	segs []int
	used int // bytes of the last one
}

func (n *image) last() int { return n.segs[len(n.segs)-1] }

func (n *image) manifest(version int) api.Manifest {
	return api.Manifest{Version: version, Next: n.last() + 1, Segs: n.segs}
}

// fill writes rows to new segments, and makes them sure.
func (n *image) fill(rows [][]byte) api.Errno {
	if len(rows) == 0 {
		rows = [][]byte{nil}
	}
	for _, b := range rows {
		if e := n.put(b); e != api.OK {
			return e
		}
	}
	return n.log.sync(n.last())
}

func (n *image) put(b []byte) api.Errno {
	if len(n.segs) == 0 {
		return n.begin(b)
	}
	if n.used+len(b) > n.log.size {
		return inOrder(
			func() api.Errno { return n.log.sync(n.last()) },
			func() api.Errno { return n.begin(b) },
		)
	}
	n.used += len(b)
	return n.log.put(n.last(), b)
}

// begin notes a segment as begun as soon as its name is free: from then on a file of that name is its own.
func (n *image) begin(b []byte) api.Errno {
	if len(n.segs) == api.MaxSegs {
		return api.ErrLong
	}
	seg := n.log.m.Next + len(n.segs)
	if e := n.log.discard(manifest.Name(seg)); e != api.OK {
		return e
	}
	n.segs, n.used = append(n.segs, seg), len(b)
	return n.log.put(seg, b)
}
