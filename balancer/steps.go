package balancer

import (
	"goit/api"
	"goit/gens"
	"goit/path"
)

const maxTicks = 1000000

// Do does a step.
func (b *Balancer) Do(s api.Step) (api.Out, api.Errno) {
	switch {
	case b == nil || b.store == nil || !within(s.Kind, api.SPacket, api.SHand):
		return api.Out{}, api.ErrArg
	case b.process == nil && s.Kind != api.SCrash:
		return api.Out{}, api.ErrState
	case s.Kind == api.SPacket:
		return b.packet(s.Data), api.OK
	}
	return api.Out{}, b.change(s)
}

// change does a step that is no packet.
func (b *Balancer) change(s api.Step) api.Errno {
	switch s.Kind {
	case api.STick:
		return b.tick(s.N)
	case api.SGen:
		return b.follow(s.Backends)
	case api.SDrain:
		return b.drain(s.Backend, s.N)
	case api.SClear:
		return b.clear(s.Backend)
	case api.SSync:
		return b.sync()
	case api.SCompact:
		return b.rewrite(b.Version())
	case api.SUpgrade:
		return b.rewrite(s.N)
	case api.SFault:
		b.disk.Fail(s.N)
	case api.SCrash:
		b.disk.Crash(s.Picks)
		return b.beginAnew()
	case api.SHand:
		return b.hand(s.N, s.X)
	}
	return api.OK
}

func (b *Balancer) packet(data []byte) api.Out {
	p := b.process
	plan := path.Packet(b.config, p.flows, p.chooser, p.gen, b.now, data)
	for _, r := range plan.Records {
		b.write(r)
	}
	return plan.Out
}

// later is the clock n ticks from now, if n is from least on and that is a time.
func (b *Balancer) later(n, least int) (int64, bool) {
	if !within(n, least, maxTicks) || b.now+int64(n) > api.MaxTime {
		return 0, false
	}
	return b.now + int64(n), true
}

func (b *Balancer) tick(n int) api.Errno {
	now, ok := b.later(n, 0)
	if !ok {
		return api.ErrArg
	}
	b.now = now
	for _, f := range b.process.flows.Idle(now) {
		b.write(api.Record{Kind: api.RDel, Flow: api.Flow{Tuple: f.Tuple}})
	}
	due := b.process.drains.Due(now)
	for _, backend := range due {
		b.writeClear(backend)
		b.leave(backend)
	}
	if len(due) > 0 {
		b.process.setChooser()
	}
	return api.OK
}

// leave takes a backend out of the backends.
func (b *Balancer) leave(backend int) {
	p := b.process
	if p.has(backend) {
		b.write(p.follow(gens.Without(p.backends, only(backend).is)))
	}
}

// only is one backend.
type only int

func (o only) is(id int) bool { return id == int(o) }

func (b *Balancer) follow(l []api.Backend) api.Errno {
	l = gens.Sort(l)
	if !gens.May(l) {
		return api.ErrArg
	}
	p := b.process
	for _, d := range p.drains.All() {
		if _, stays := gens.Find(l, d.Backend); !stays {
			p.drains.Clear(d.Backend)
			b.writeClear(d.Backend)
		}
	}
	b.write(p.follow(l))
	p.setChooser()
	return api.OK
}

func (b *Balancer) drain(backend, n int) api.Errno {
	p := b.process
	if !p.has(backend) {
		return api.ErrNone
	}
	until, ok := b.later(n, 1)
	if !ok {
		return api.ErrArg
	}
	if e := p.drains.Put(backend, until); e != api.OK {
		return e
	}
	b.write(api.Record{Kind: api.RDrain, Backend: backend, Until: until})
	p.setChooser()
	return api.OK
}

func (b *Balancer) clear(backend int) api.Errno {
	if !b.process.drains.Clear(backend) {
		return api.ErrNone
	}
	b.writeClear(backend)
	b.process.setChooser()
	return api.OK
}
