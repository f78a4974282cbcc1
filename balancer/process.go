package balancer

import (
	"slices"

	"goit/api"
	"goit/choice"
	"goit/drains"
	"goit/flows"
	"goit/gens"
)

const maxGen = 1000000

// process is what a balancer has in memory: it is gone when another one begins.
type process struct {
	flows    *flows.Table
	chooser  *choice.Chooser
	drains   *drains.Set
	gen      int
	backends []api.Backend
}

// begin is a process that has v; of its flows as many as there is room for.
func begin(c api.Config, v api.State) *process {
	p := &process{
		flows:    flows.New(c.Flows, c.Idle),
		chooser:  choice.New(c.Slots),
		drains:   drains.New(),
		gen:      v.Gen,
		backends: v.Backends,
	}
	for _, f := range v.Flows {
		p.flows.Put(f)
	}
	for _, d := range v.Drains {
		p.drains.Put(d.Backend, d.Until)
	}
	p.setChooser()
	return p
}

// setChooser lets new flows go to who is a backend and does not drain.
func (p *process) setChooser() { p.chooser.Set(p.backends, p.drains.Is) }

func (p *process) state() api.State {
	if p == nil {
		return api.State{}
	}
	return api.State{Gen: p.gen, Backends: slices.Clone(p.backends), Drains: p.drains.All(), Flows: p.flows.All()}
}

// follow makes l the next generation, and tells the record of it.
func (p *process) follow(l []api.Backend) api.Record {
	p.gen, p.backends = min(p.gen+1, maxGen), l
	return api.Record{Kind: api.RGen, Gen: p.gen, Backends: l}
}

// has tells whether a backend is among the backends.
func (p *process) has(backend int) bool {
	_, ok := gens.Find(p.backends, backend)
	return ok
}
