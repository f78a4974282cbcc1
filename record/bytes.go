package record

import (
	"goit/api"
	"goit/octet"
	"goit/tuple"
)

// Encode is the frame of r in a format.
func Encode(r api.Record, version int) (api.Frame, api.Errno) {
	if !isVersion(version) {
		return api.Frame{}, api.ErrVersion
	}
	if !May(r) {
		return api.Frame{}, api.ErrArg
	}
	var w writer
	w.calls().walk(&r, version)
	return api.Frame{Kind: r.Kind, Version: version, Body: w.Bytes()}, api.OK
}

// Decode is the record of a frame.
func Decode(f api.Frame) (api.Record, api.Errno) {
	if !isVersion(f.Version) {
		return api.Record{}, api.ErrVersion
	}
	r := api.Record{Kind: f.Kind}
	rd := reader{octet.NewReader(f.Body)}
	rd.calls().walk(&r, f.Version)
	r = In(r, f.Version)
	if rd.End() != api.OK || !May(r) {
		return api.Record{}, api.ErrForm
	}
	return r, api.OK
}

// calls are what a body is gone through with: a writer's put what they are shown, a reader's fill it.
// So there is one order of fields for both.
type calls struct {
	u8, u16, u32 func(n *int)
	addr         func(a *uint32)
	i64          func(n *int64)
	tuple        func(t *api.Tuple)
}

// walk goes through what r's kind has, as a format keeps it.
func (c calls) walk(r *api.Record, version int) {
	switch r.Kind {
	case api.RPut:
		c.flow(&r.Flow, version)
	case api.RDel:
		c.tuple(&r.Flow.Tuple)
	case api.RGen:
		c.u32(&r.Gen)
		c.backends(r, version)
	case api.RDrain:
		c.u16(&r.Backend)
		c.i64(&r.Until)
	case api.RClear:
		c.u16(&r.Backend)
	case api.REnd:
		c.u32(&r.Count)
	}
}

func (c calls) flow(f *api.Flow, version int) {
	c.tuple(&f.Tuple)
	c.u16(&f.Backend)
	if version >= gens {
		c.u32(&f.Gen)
	}
	if version >= seens {
		c.i64(&f.Seen)
	}
}

func (c calls) backends(r *api.Record, version int) {
	n := len(r.Backends)
	c.u8(&n)
	if len(r.Backends) < n { // a reader has just learnt how many
		r.Backends = make([]api.Backend, n)
	}
	for i := range r.Backends {
		b := &r.Backends[i]
		c.u16(&b.Id)
		c.addr(&b.Addr)
		if version >= weights {
			c.u8(&b.Weight)
		}
	}
}

// writer puts what it is shown.
type writer struct {
	octet.Writer
}

func (w *writer) calls() calls {
	return calls{u8: w.u8, u16: w.u16, u32: w.u32, addr: w.addr, i64: w.i64, tuple: w.tuple}
}

func (w *writer) u8(n *int)          { w.U8(*n) }
func (w *writer) u16(n *int)         { w.U16(*n) }
func (w *writer) u32(n *int)         { w.U32(uint32(*n)) }
func (w *writer) addr(a *uint32)     { w.U32(*a) }
func (w *writer) i64(n *int64)       { w.I64(*n) }
func (w *writer) tuple(t *api.Tuple) { tuple.Write(&w.Writer, *t) }

// reader fills what it is shown; a tuple that may not be is none, which no record may have.
type reader struct {
	*octet.Reader
}

func (r reader) calls() calls {
	return calls{u8: r.u8, u16: r.u16, u32: r.u32, addr: r.addr, i64: r.i64, tuple: r.tuple}
}

func (r reader) u8(n *int)          { *n = r.U8() }
func (r reader) u16(n *int)         { *n = r.U16() }
func (r reader) u32(n *int)         { *n = int(r.U32()) }
func (r reader) addr(a *uint32)     { *a = r.U32() }
func (r reader) i64(n *int64)       { *n = r.I64() }
func (r reader) tuple(t *api.Tuple) { *t, _ = tuple.Read(r.Reader) }
