package state

import (
	"maps"
	"slices"
	"sort"

	"goit/api"
	"goit/gens"
	"goit/tuple"
)

// View is all of a state, in order.
func (s *State) View() api.State {
	if s == nil {
		return api.State{}
	}
	v := api.State{Gen: s.gen, Backends: slices.Clone(s.backends)}
	for _, backend := range slices.Sorted(maps.Keys(s.drains)) {
		v.Drains = append(v.Drains, api.Drain{Backend: backend, Until: s.drains[backend]})
	}
	v.Flows = slices.Collect(maps.Values(s.flows))
	sort.Slice(v.Flows, func(i, j int) bool { return tuple.Less(v.Flows[i].Tuple, v.Flows[j].Tuple) })
	return v
}

// Records is what makes the state anew.
func (s *State) Records() []api.Record {
	if s == nil {
		return nil
	}
	return records(s.View())
}

// records tells of v, in its own order.
func records(v api.State) []api.Record {
	l := []api.Record{{Kind: api.RGen, Gen: v.Gen, Backends: v.Backends}}
	for _, d := range v.Drains {
		l = append(l, api.Record{Kind: api.RDrain, Backend: d.Backend, Until: d.Until})
	}
	for _, f := range v.Flows {
		l = append(l, api.Record{Kind: api.RPut, Flow: f})
	}
	return l
}

// Of is the state that v is a view of.
func Of(v api.State) (*State, api.Errno) {
	s := New()
	for _, r := range records(v) {
		if e := s.Apply(r); e != api.OK {
			return nil, e
		}
	}
	if !Same(s.View(), v) { // out of order, or twice there
		return nil, api.ErrArg
	}
	return s, api.OK
}

// Same tells whether two views are alike.
func Same(a, b api.State) bool {
	return a.Gen == b.Gen && gens.Same(a.Backends, b.Backends) && slices.Equal(a.Drains, b.Drains) && slices.Equal(a.Flows, b.Flows)
}
