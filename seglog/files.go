package seglog

import (
	"goit/api"
	"goit/manifest"
)

func (l *Log) there(name string) bool {
	_, ok := l.d.Read(name)
	return ok
}

// discard removes a file, if it is there.
func (l *Log) discard(name string) api.Errno {
	if !l.there(name) {
		return api.OK
	}
	return l.d.Remove(name)
}

// begin makes a segment, with its first bytes; what had its name was left behind.
func (l *Log) begin(seg int, first []byte) api.Errno {
	return inOrder(
		func() api.Errno { return l.discard(manifest.Name(seg)) },
		func() api.Errno { return l.put(seg, first) },
	)
}

func (l *Log) put(seg int, b []byte) api.Errno { return l.d.Append(manifest.Name(seg), b) }

func (l *Log) sync(seg int) api.Errno { return l.d.Sync(manifest.Name(seg)) }

// length is asked of the disk, which knows it whatever failed.
func (l *Log) length(seg int) int {
	b, _ := l.d.Read(manifest.Name(seg))
	return len(b)
}

// full tells whether a segment has bytes, and would have too many with more.
func (l *Log) full(seg int, more []byte) bool {
	n := l.length(seg)
	return n > 0 && n+len(more) > l.size
}

// last is the segment that is written to.
func (l *Log) last() int { return l.m.Segs[len(l.m.Segs)-1] }

// count writes a manifest. It counts once it is renamed, even if that is not sure yet.
func (l *Log) count(m api.Manifest) api.Errno {
	b, e := manifest.Encode(m)
	if e != api.OK {
		return e
	}
	e = inOrder(
		func() api.Errno { return l.discard(draft) },
		func() api.Errno { return l.d.Append(draft, b) },
		func() api.Errno { return l.d.Sync(draft) },
		func() api.Errno { return l.d.Rename(draft, counting) },
	)
	if e != api.OK {
		return e
	}
	l.m, l.loose = m, true
	return l.tighten()
}

// tighten makes sure the names of a loose log.
func (l *Log) tighten() api.Errno {
	if !l.loose {
		return api.OK
	}
	e := l.d.SyncDir()
	l.loose = e != api.OK
	return e
}
