package balancer

import (
	"goit/api"
	"goit/handoff"
	"goit/migrate"
	"goit/state"
	"goit/store"
)

// write writes a record. Once one is lost the others are, too: what is stored must stay a beginning of what was.
func (b *Balancer) write(r api.Record) {
	if !b.sick && b.store.Write(r) == api.OK {
		return
	}
	b.sick = true
	b.lost++
}

func (b *Balancer) writeClear(backend int) {
	b.write(api.Record{Kind: api.RClear, Backend: backend})
}

func (b *Balancer) sync() api.Errno {
	if b.sick {
		return api.ErrState
	}
	return b.store.Sync()
}

// rewrite makes the log anew, in a format, of what the process has: nothing is lost then.
func (b *Balancer) rewrite(version int) api.Errno {
	image, e := migrate.State(b.State(), b.Version(), version)
	if e != api.OK {
		return e
	}
	st, e := state.Of(image)
	if e != api.OK {
		return e
	}
	e = b.store.Swap(version, st)
	if e == api.OK {
		b.sick = false
	}
	return e
}

// beginAnew ends the process, and begins another one over the disk as it is.
func (b *Balancer) beginAnew() api.Errno {
	s, e := store.Open(b.disk, api.Versions, b.config.Segment)
	if e != api.OK {
		b.process = nil
		return e
	}
	v := s.State().View()
	for i := range v.Flows {
		v.Flows[i].Seen = b.now
	}
	b.store, b.process, b.sick = s, begin(b.config, v), false
	return api.OK
}

// hand gives all to a new process, by a stream that may be spoilt on its way.
func (b *Balancer) hand(n, x int) api.Errno {
	stream, _ := handoff.Send(b.State(), b.now) // no stream is refused like any other that is not whole
	v, now, e := handoff.Receive(spoil(stream, n, x))
	if e != api.OK {
		b.beginAnew()
		return api.ErrCut
	}
	b.now, b.process = now, begin(b.config, v)
	return api.OK
}

// spoil cuts a stream at n, or changes its byte there by x; below 0 it leaves it whole.
func spoil(stream []byte, n, x int) []byte {
	if n < 0 || len(stream) == 0 {
		return stream
	}
	at := n % len(stream)
	if x == 0 {
		return stream[:at]
	}
	stream[at] ^= max(byte(x), 1)
	return stream
}
