package seglog

import (
	"slices"

	"goit/api"
	"goit/frame"
)

// Append puts a frame behind all others.
func (l *Log) Append(kind int, body []byte) api.Errno {
	if l.none() {
		return api.ErrArg
	}
	b, e := frame.Put(api.Frame{Kind: kind, Version: l.m.Version, Body: body})
	if e != api.OK {
		return e
	}
	return inOrder(
		l.tighten,
		func() api.Errno { return l.makeRoom(b) },
		func() api.Errno { return l.put(l.last(), b) },
	)
}

// makeRoom closes the last segment, if it is full, and begins another.
func (l *Log) makeRoom(b []byte) api.Errno {
	if !l.full(l.last(), b) {
		return api.OK
	}
	if len(l.m.Segs) >= api.MaxSegs {
		return api.ErrLong
	}
	next := l.m.Next
	longer := api.Manifest{Version: l.m.Version, Next: next + 1, Segs: append(slices.Clone(l.m.Segs), next)}
	return inOrder(
		func() api.Errno { return l.sync(l.last()) },
		func() api.Errno { return l.begin(next, nil) },
		func() api.Errno { return l.sync(next) },
		func() api.Errno { return l.count(longer) },
	)
}

// Sync makes sure what was appended: the other segments were made sure when they were closed.
func (l *Log) Sync() api.Errno {
	if l.none() {
		return api.ErrArg
	}
	return inOrder(
		l.tighten,
		func() api.Errno { return l.sync(l.last()) },
	)
}
