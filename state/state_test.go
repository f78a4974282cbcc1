package state_test

import (
	"math/rand"
	"testing"

	"goit/api"
	"goit/record"
	"goit/state"
)

func tup(n int) api.Tuple {
	return api.Tuple{Src: uint32(n) << 20, Dst: 2, Proto: api.TCP, Sport: 3, Dport: 4}
}

func flow(n, backend int) api.Flow {
	return api.Flow{Tuple: tup(n), Backend: backend, Gen: 5, Seen: int64(n)}
}

func put(n, backend int) api.Record { return api.Record{Kind: api.RPut, Flow: flow(n, backend)} }
func del(n int) api.Record {
	return api.Record{Kind: api.RDel, Flow: api.Flow{Tuple: tup(n)}}
}
func drain(b int, until int64) api.Record {
	return api.Record{Kind: api.RDrain, Backend: b, Until: until}
}
func clear(b int) api.Record { return api.Record{Kind: api.RClear, Backend: b} }
func gen(n int, ids ...int) api.Record {
	return api.Record{Kind: api.RGen, Gen: n, Backends: backends(ids...)}
}

func backends(ids ...int) []api.Backend {
	var l []api.Backend
	for _, id := range ids {
		l = append(l, api.Backend{Id: id, Addr: uint32(id), Weight: 1 + id%10})
	}
	return l
}

// made is the state that records make; none of them is refused.
func made(t *testing.T, l ...api.Record) *state.State {
	t.Helper()
	s := state.New()
	for i, r := range l {
		if e := s.Apply(r); e != api.OK {
			t.Fatalf("record %d: %d", i, e)
		}
	}
	return s
}

func is(t *testing.T, s *state.State, want api.State) {
	t.Helper()
	if got := s.View(); !state.Same(got, want) {
		t.Errorf("%v, not %v", got, want)
	}
}

// P14.1
func TestApply(t *testing.T) {
	is(t, state.New(), api.State{})
	is(t, made(t, put(2, 7), put(1, 8), put(2, 9)), api.State{Flows: []api.Flow{flow(1, 8), flow(2, 9)}})
	is(t, made(t, put(2, 7), put(1, 8), del(2), del(3)), api.State{Flows: []api.Flow{flow(1, 8)}})
	is(t, made(t, gen(3, 1, 2), gen(2, 5)), api.State{Gen: 2, Backends: backends(5)})
	is(t, made(t, gen(3, 1, 2), gen(0)), api.State{})
	is(t, made(t, drain(9, 1), drain(2, 3), drain(9, 4), clear(3)), api.State{Drains: []api.Drain{{Backend: 2, Until: 3}, {Backend: 9, Until: 4}}})
	is(t, made(t, drain(9, 1), drain(2, 3), clear(9)), api.State{Drains: []api.Drain{{Backend: 2, Until: 3}}})
}

// P14.1
func TestApplyRefuses(t *testing.T) {
	bad := put(1, -1)
	s := made(t, gen(3, 1, 2), drain(1, 5), put(1, 2))
	was := s.View()
	for i, r := range []api.Record{{}, {Kind: 7}, bad, drain(-1, 5), drain(1, -5), clear(65536), gen(-1), gen(4, 2, 1), gen(4, 1, 1), {Kind: api.RGen, Backends: []api.Backend{{Id: 1}}}, {Kind: api.REnd, Count: 3}, {Kind: api.RDel}} {
		if e := s.Apply(r); e != api.ErrArg {
			t.Errorf("record %d: %d", i, e)
		}
		is(t, s, was)
	}
}

// P14.1
func TestFull(t *testing.T) {
	s := state.New()
	for i := range api.MaxFlows {
		if e := s.Apply(put(i, 1)); e != api.OK {
			t.Fatalf("flow %d: %d", i, e)
		}
	}
	for i := range api.MaxBackends {
		if e := s.Apply(drain(2*i, 1)); e != api.OK {
			t.Fatalf("drain %d: %d", i, e)
		}
	}
	was := s.View()
	if s.Apply(put(300, 1)) != api.ErrFull || s.Apply(drain(3, 1)) != api.ErrFull {
		t.Error("more than there may be")
	}
	is(t, s, was)
	if s.Apply(put(7, 2)) != api.OK || s.Apply(drain(4, 2)) != api.OK || s.Len() != 1+api.MaxFlows+api.MaxBackends {
		t.Errorf("what is there: %d records", s.Len())
	}
	if s.Apply(del(7)) != api.OK || s.Apply(clear(4)) != api.OK || s.Apply(put(300, 1)) != api.OK || s.Apply(drain(3, 1)) != api.OK {
		t.Error("there is room")
	}
}

// P14.2
func TestGet(t *testing.T) {
	s := made(t, put(1, 7))
	if f, ok := s.Get(tup(1)); !ok || f != flow(1, 7) {
		t.Errorf("%v, %v", f, ok)
	}
	if f, ok := s.Get(tup(2)); ok || f != (api.Flow{}) {
		t.Errorf("%v, %v", f, ok)
	}
}

// P14.2
func TestRecords(t *testing.T) {
	s := made(t, put(3, 1), drain(9, 4), put(1, 2), gen(4, 2, 5), drain(2, 6), put(2, 3))
	want := []api.Record{gen(4, 2, 5), drain(2, 6), drain(9, 4), put(1, 2), put(2, 3), put(3, 1)}
	got := s.Records()
	if len(got) != len(want) || s.Len() != len(want) {
		t.Fatalf("%v, %d records", got, s.Len())
	}
	for i, r := range got {
		if !record.Same(r, want[i]) {
			t.Errorf("record %d: %v", i, r)
		}
	}
	if l := state.New().Records(); len(l) != 1 || !record.Same(l[0], gen(0)) || state.New().Len() != 1 {
		t.Errorf("of nothing: %v", l)
	}
}

// P14.2, R2
func TestStatesShareNothing(t *testing.T) {
	g := gen(4, 2, 5)
	s := made(t, g, drain(2, 6), put(1, 2))
	g.Backends[0].Id = 99
	want := api.State{Gen: 4, Backends: backends(2, 5), Drains: []api.Drain{{Backend: 2, Until: 6}}, Flows: []api.Flow{flow(1, 2)}}
	v := s.View()
	v.Backends[0].Id, v.Drains[0].Until, v.Flows[0].Backend = 99, 99, 99
	s.Records()[0].Backends[0].Id = 99
	is(t, s, want)
	c := s.Copy()
	for _, r := range []api.Record{put(1, 9), put(2, 9), del(2), drain(2, 9), clear(2), gen(7, 7)} {
		if e := c.Apply(r); e != api.OK {
			t.Errorf("%v: %d", r, e)
		}
	}
	is(t, s, want)
	is(t, c, api.State{Gen: 7, Backends: backends(7), Flows: []api.Flow{flow(1, 9)}})
	of, _ := state.Of(want)
	want.Backends[0].Id, want.Drains[0].Until, want.Flows[0].Backend = 99, 99, 99
	is(t, of, s.View())
}

func whole() api.State {
	return api.State{Gen: 4, Backends: backends(2, 5), Drains: []api.Drain{{Backend: 2, Until: 6}, {Backend: 3, Until: 6}}, Flows: []api.Flow{flow(1, 2), flow(2, 2)}}
}

// P14.2
func TestSame(t *testing.T) {
	for i, change := range []func(v *api.State){
		func(v *api.State) { v.Gen++ }, func(v *api.State) { v.Backends = v.Backends[:1] }, func(v *api.State) { v.Backends[1].Id++ }, func(v *api.State) { v.Backends[1].Addr++ }, func(v *api.State) { v.Backends[1].Weight++ },
		func(v *api.State) { v.Drains = v.Drains[1:] }, func(v *api.State) { v.Drains[1].Until++ }, func(v *api.State) { v.Drains[1].Backend++ }, func(v *api.State) { v.Drains[0], v.Drains[1] = v.Drains[1], v.Drains[0] },
		func(v *api.State) { v.Flows = nil }, func(v *api.State) { v.Flows[1].Tuple.Sport++ }, func(v *api.State) { v.Flows[1].Backend++ }, func(v *api.State) { v.Flows[0].Gen++ }, func(v *api.State) { v.Flows[0].Seen++ },
	} {
		v := whole()
		change(&v)
		if state.Same(v, whole()) || state.Same(whole(), v) {
			t.Errorf("change %d", i)
		}
	}
	if !state.Same(whole(), whole()) || !state.Same(api.State{}, api.State{Backends: []api.Backend{}, Drains: []api.Drain{}, Flows: []api.Flow{}}) {
		t.Error("one is not like itself")
	}
}

// P14.2
func TestOf(t *testing.T) {
	for _, v := range []api.State{{}, whole(), {Flows: []api.Flow{}}} {
		s, e := state.Of(v)
		if e != api.OK {
			t.Fatalf("%v: %d", v, e)
		}
		is(t, s, v)
	}
	full := func(v *api.State) {
		v.Flows = nil
		for i := range api.MaxFlows + 1 {
			v.Flows = append(v.Flows, flow(i, 1))
		}
	}
	drained := func(v *api.State) {
		v.Drains = nil
		for i := range api.MaxBackends + 1 {
			v.Drains = append(v.Drains, api.Drain{Backend: i, Until: 1})
		}
	}
	for i, x := range []struct {
		change func(v *api.State)
		want   api.Errno
	}{
		{func(v *api.State) { v.Gen = -1 }, api.ErrArg}, {func(v *api.State) { v.Gen = 1000001 }, api.ErrArg}, {func(v *api.State) { v.Backends[1].Id = 2 }, api.ErrArg}, {func(v *api.State) { v.Backends[1].Weight = 0 }, api.ErrArg},
		{func(v *api.State) { v.Drains[0], v.Drains[1] = v.Drains[1], v.Drains[0] }, api.ErrArg}, {func(v *api.State) { v.Drains[1] = v.Drains[0] }, api.ErrArg}, {func(v *api.State) { v.Drains[1].Until = -1 }, api.ErrArg},
		{func(v *api.State) { v.Flows[0], v.Flows[1] = v.Flows[1], v.Flows[0] }, api.ErrArg}, {func(v *api.State) { v.Flows[1] = v.Flows[0] }, api.ErrArg}, {func(v *api.State) { v.Flows[1].Backend = 65536 }, api.ErrArg},
		{full, api.ErrFull}, {drained, api.ErrFull}, {func(v *api.State) { full(v); v.Gen = -1 }, api.ErrArg}, {func(v *api.State) { drained(v); v.Flows[0].Seen = -1 }, api.ErrFull},
	} {
		v := whole()
		x.change(&v)
		if s, e := state.Of(v); e != x.want || s != nil {
			t.Errorf("change %d: %d, not %d", i, e, x.want)
		}
	}
}

// P14.3
func TestRecordsMakeTheSame(t *testing.T) {
	r := rand.New(rand.NewSource(1))
	for range 100 {
		s := state.New()
		for range 60 {
			x := []api.Record{put(r.Intn(20), r.Intn(5)), del(r.Intn(20)), drain(r.Intn(6), int64(r.Intn(9))), clear(r.Intn(6)), gen(r.Intn(9), 1+r.Intn(3), 5+r.Intn(3))}[r.Intn(5)]
			if e := s.Apply(x); e != api.OK {
				t.Fatalf("%v: %d", x, e)
			}
			once := s.View()
			if s.Apply(x); !state.Same(once, s.View()) {
				t.Fatalf("%v, applied twice, does more", x)
			}
		}
		is(t, made(t, s.Records()...), s.View())
		of, e := state.Of(s.View())
		if e != api.OK {
			t.Fatalf("Of: %d", e)
		}
		is(t, of, s.View())
	}
}

// R3
func TestNil(t *testing.T) {
	var s *state.State
	f, ok := s.Get(tup(1))
	if s.Apply(gen(1)) != api.ErrArg || f != (api.Flow{}) || ok || len(s.Records()) != 0 || s.Len() != 0 || s.Copy() != nil {
		t.Error("a nil state has something")
	}
	is(t, s, api.State{})
}
