package balancer_test

import (
	"bytes"
	"slices"
	"testing"

	"goit/api"
	"goit/balancer"
	"goit/encap"
	"goit/ip"
	"goit/state"
	"goit/store"
)

var config = api.Config{Self: 0x0a090909, Slots: 13, Flows: 8, Idle: 30, MTU: 1500, Segment: 200, Quota: 20000, Version: 3}

// with is the config with something else in it.
func with(change func(c *api.Config)) api.Config {
	c := config
	change(&c)
	return c
}

func made(t *testing.T, c api.Config) *balancer.Balancer {
	t.Helper()
	b, e := balancer.New(c)
	if e != api.OK || b == nil {
		t.Fatalf("New: %d", e)
	}
	return b
}

// does does steps, each of which tells what stands behind it.
func does(t *testing.T, b *balancer.Balancer, steps ...any) {
	t.Helper()
	for i := 0; i+1 < len(steps); i += 2 {
		o, e := b.Do(steps[i].(api.Step))
		if e != steps[i+1].(api.Errno) || o.Verdict != 0 || o.Reason != 0 || o.Backend != 0 || o.Packet != nil {
			t.Errorf("step %d: %d, not %d (%v)", i/2, e, steps[i+1], o)
		}
	}
}

// ok does steps that all go well.
func ok(t *testing.T, b *balancer.Balancer, steps ...api.Step) {
	t.Helper()
	for _, s := range steps {
		if s.Kind == api.SPacket {
			if o, e := b.Do(s); e != api.OK || o.Verdict != api.VForward {
				t.Errorf("%v: %d, %v", s, e, o)
			}
			continue
		}
		does(t, b, s, api.OK)
	}
}

func tick(n int) api.Step          { return api.Step{Kind: api.STick, N: n} }
func drain(b, n int) api.Step      { return api.Step{Kind: api.SDrain, Backend: b, N: n} }
func clear(b int) api.Step         { return api.Step{Kind: api.SClear, Backend: b} }
func fault(n int) api.Step         { return api.Step{Kind: api.SFault, N: n} }
func upgrade(n int) api.Step       { return api.Step{Kind: api.SUpgrade, N: n} }
func hand(n, x int) api.Step       { return api.Step{Kind: api.SHand, N: n, X: x} }
func crash(picks ...byte) api.Step { return api.Step{Kind: api.SCrash, Picks: picks} }
func gen(ids ...int) api.Step      { return api.Step{Kind: api.SGen, Backends: backends(ids...)} }

var sync, shorten = api.Step{Kind: api.SSync}, api.Step{Kind: api.SCompact}

func backends(ids ...int) []api.Backend {
	var l []api.Backend
	for _, id := range ids {
		l = append(l, api.Backend{Id: id, Addr: uint32(100 + id), Weight: 2})
	}
	return l
}

func tup(n int) api.Tuple {
	return api.Tuple{Src: uint32(n), Dst: 2, Proto: api.TCP, Sport: 258, Dport: 80}
}

// data is a TCP packet of a flow, with flags.
func data(n int, flags byte) []byte {
	body := make([]byte, 20)
	body[0], body[1], body[3], body[12], body[13] = 1, 2, 80, 0x50, flags
	return append(ip.Build(api.Header{Len: 40, TTL: 9, Proto: api.TCP, Src: uint32(n), Dst: 2}), body...)
}

func packet(n int) api.Step { return api.Step{Kind: api.SPacket, Data: data(n, 0)} }

// last is the packet that ends a flow.
func last(n int) api.Step { return api.Step{Kind: api.SPacket, Data: data(n, 1)} }

func flow(n, backend, gen int, seen int64) api.Flow {
	return api.Flow{Tuple: tup(n), Backend: backend, Gen: gen, Seen: seen}
}

func is(t *testing.T, what string, got, want api.State) {
	t.Helper()
	if !state.Same(got, want) {
		t.Errorf("%s: %v, not %v", what, got, want)
	}
}

// isStored tells whether the process has this, and whether it is all written.
func isStored(t *testing.T, b *balancer.Balancer, want api.State) {
	t.Helper()
	is(t, "State", b.State(), want)
	is(t, "Stored", b.Stored(), want)
}

// P25.1
func TestMay(t *testing.T) {
	for i, c := range []api.Config{config, with(func(c *api.Config) {
		c.Slots, c.Flows, c.Idle, c.MTU, c.Segment, c.Quota, c.Version = 3, 0, 1, 0, api.HeadLen, 0, 1
	}),
		with(func(c *api.Config) {
			c.Slots, c.Flows, c.Idle, c.MTU, c.Segment, c.Quota = 251, api.MaxFlows, api.MaxTime, api.MaxPacket, api.MaxFile, 64*api.MaxFile
		}), with(func(c *api.Config) { c.Self, c.Version = 0, 2 })} {
		if !balancer.May(c) {
			t.Errorf("%d may not be", i)
		}
	}
	for i, change := range []func(c *api.Config){
		func(c *api.Config) { c.Slots = 12 }, func(c *api.Config) { c.Slots = 2 }, func(c *api.Config) { c.Slots = 257 }, func(c *api.Config) { c.Flows = -1 }, func(c *api.Config) { c.Flows = 257 },
		func(c *api.Config) { c.Idle = 0 }, func(c *api.Config) { c.Idle = -1 }, func(c *api.Config) { c.Idle = api.MaxTime + 1 }, func(c *api.Config) { c.MTU = -1 }, func(c *api.Config) { c.MTU = 2001 },
		func(c *api.Config) { c.Segment = 15 }, func(c *api.Config) { c.Segment = api.MaxFile + 1 }, func(c *api.Config) { c.Quota = -1 }, func(c *api.Config) { c.Quota = 64*api.MaxFile + 1 },
		func(c *api.Config) { c.Version = 0 }, func(c *api.Config) { c.Version = 4 }, func(c *api.Config) { *c = api.Config{} },
	} {
		c := with(change)
		if balancer.May(c) {
			t.Errorf("%d may be", i)
		}
		if b, e := balancer.New(c); b != nil || e != api.ErrArg {
			t.Errorf("New, %d: %d", i, e)
		}
	}
}

// P25.1
func TestNew(t *testing.T) {
	for version := 1; version <= 3; version++ {
		b := made(t, with(func(c *api.Config) { c.Version = version }))
		isStored(t, b, api.State{})
		is(t, "Sure", b.Sure(), api.State{})
		if b.Now() != 0 || b.Version() != version || b.Lost() != 0 || b.Sick() || b.Disk().Quota() != 20000 || len(b.Disk().Names()) != 2 {
			t.Errorf("format %d: at %d, version %d, files %v", version, b.Now(), b.Version(), b.Disk().Names())
		}
	}
	if b, e := balancer.New(with(func(c *api.Config) { c.Quota = 10 })); b != nil || e != api.ErrQuota {
		t.Errorf("no room: %d", e)
	}
}

// P25.2, P25.4
func TestPacket(t *testing.T) {
	b := made(t, config)
	for _, x := range []struct {
		data   []byte
		reason int
	}{{nil, api.NShort}, {data(1, 0), api.NNone}} {
		if o, e := b.Do(api.Step{Kind: api.SPacket, Data: x.data}); e != api.OK || o.Verdict != api.VDrop || o.Reason != x.reason {
			t.Errorf("%d, %v", e, o)
		}
	}
	ok(t, b, gen(7), tick(5))
	o, e := b.Do(packet(1))
	want, _ := encap.Wrap(data(1, 0), config.Self, 107, config.MTU)
	if e != api.OK || o.Verdict != api.VForward || o.Backend != 7 || !bytes.Equal(o.Packet, want) {
		t.Errorf("%d, %v", e, o)
	}
	isStored(t, b, api.State{Gen: 1, Backends: backends(7), Flows: []api.Flow{flow(1, 7, 1, 5)}})
	ok(t, b, tick(1), packet(1), packet(2), last(3), last(2))
	is(t, "State", b.State(), api.State{Gen: 1, Backends: backends(7), Flows: []api.Flow{flow(1, 7, 1, 6)}})
	is(t, "Stored", b.Stored(), api.State{Gen: 1, Backends: backends(7), Flows: []api.Flow{flow(1, 7, 1, 5)}})
	small := made(t, with(func(c *api.Config) { c.MTU = 59 }))
	ok(t, small, gen(7))
	if o, _ := small.Do(packet(1)); o.Reason != api.NMTU {
		t.Errorf("%v", o)
	}
}

// P25.2
func TestTick(t *testing.T) {
	b := made(t, config)
	does(t, b, tick(-1), api.ErrArg, tick(1000001), api.ErrArg, tick(1000000), api.OK, tick(0), api.OK)
	if b.Now() != 1000000 {
		t.Errorf("at %d", b.Now())
	}
	b = made(t, config)
	ok(t, b, gen(7), packet(3), tick(1), packet(1), packet(2), tick(28))
	two := []api.Flow{flow(1, 7, 1, 1), flow(2, 7, 1, 1)}
	isStored(t, b, api.State{Gen: 1, Backends: backends(7), Flows: append(slices.Clone(two), flow(3, 7, 1, 0))})
	ok(t, b, tick(1))
	isStored(t, b, api.State{Gen: 1, Backends: backends(7), Flows: two})
	ok(t, b, tick(1))
	isStored(t, b, api.State{Gen: 1, Backends: backends(7)})
}

// P25.2
func TestTheEndOfTime(t *testing.T) {
	b := made(t, with(func(c *api.Config) { c.Idle = api.MaxTime }))
	ok(t, b, gen(7))
	for b.Now()+1000000 <= api.MaxTime {
		if _, e := b.Do(tick(1000000)); e != api.OK {
			t.Fatalf("at %d: %d", b.Now(), e)
		}
	}
	left := int(api.MaxTime - b.Now())
	does(t, b, tick(left+1), api.ErrArg, drain(7, left+1), api.ErrArg, drain(7, left), api.OK, tick(left), api.OK, tick(1), api.ErrArg, tick(0), api.OK)
	if b.Now() != api.MaxTime || len(b.State().Backends) != 0 {
		t.Errorf("at %d: %v", b.Now(), b.State())
	}
}

// P25.2
func TestGen(t *testing.T) {
	b := made(t, config)
	mixed := append(backends(5, 2), api.Backend{Id: 5, Addr: 9, Weight: 3})
	ok(t, b, api.Step{Kind: api.SGen, Backends: mixed})
	isStored(t, b, api.State{Gen: 1, Backends: []api.Backend{mixed[1], mixed[2]}})
	if mixed[1].Id = 99; b.State().Backends[0].Id != 2 {
		t.Error("what is handed in is kept")
	}
	b.State().Backends[0].Id = 99
	does(t, b, gen(1, -1), api.ErrArg, gen(65536), api.ErrArg, api.Step{Kind: api.SGen, Backends: []api.Backend{{Id: 1}}}, api.ErrArg)
	if b.State().Gen != 1 || b.State().Backends[0].Id != 2 {
		t.Errorf("%v", b.State())
	}
	var many []int
	for i := range 30 {
		many = append(many, 40-i)
	}
	ok(t, b, gen(many...)) // the first sixteen alone are looked at
	if s := b.State(); s.Gen != 2 || len(s.Backends) != 16 || s.Backends[0].Id != 25 || s.Backends[15].Id != 40 {
		t.Errorf("%v", s)
	}
	ok(t, b, gen(), gen())
	isStored(t, b, api.State{Gen: 4})
	if o, _ := b.Do(packet(1)); o.Reason != api.NNone {
		t.Errorf("%v", o)
	}
}

// P25.2
func TestGenClearsDrains(t *testing.T) {
	b := made(t, config)
	ok(t, b, gen(1, 2, 3), drain(3, 9), drain(1, 9), drain(2, 8), gen(2, 4))
	isStored(t, b, api.State{Gen: 2, Backends: backends(2, 4), Drains: []api.Drain{{Backend: 2, Until: 8}}})
	for n := range 20 {
		if o, _ := b.Do(last(n)); o.Backend != 4 {
			t.Errorf("flow %d: %v", n, o)
		}
	}
	ok(t, b, tick(8))
	isStored(t, b, api.State{Gen: 3, Backends: backends(4)})
}

// goes is the backends that new flows get.
func goes(b *balancer.Balancer) []int {
	var l []int
	for n := range 60 {
		if o, _ := b.Do(last(1000 + n)); o.Verdict == api.VForward && !slices.Contains(l, o.Backend) {
			l = append(l, o.Backend)
		}
	}
	slices.Sort(l)
	return l
}

func goTo(t *testing.T, b *balancer.Balancer, want ...int) {
	t.Helper()
	if got := goes(b); !slices.Equal(got, want) {
		t.Errorf("new flows go to %v, not %v", got, want)
	}
}

// P25.2
func TestDrainAndClear(t *testing.T) {
	b := made(t, config)
	does(t, b, drain(1, 5), api.ErrNone, drain(1, 0), api.ErrNone, gen(1, 2), api.OK, tick(3), api.OK, drain(3, 5), api.ErrNone,
		drain(1, 0), api.ErrArg, drain(1, 1000001), api.ErrArg, drain(1, -1), api.ErrArg, clear(1), api.ErrNone)
	isStored(t, b, api.State{Gen: 1, Backends: backends(1, 2)})
	goTo(t, b, 1, 2)
	ok(t, b, drain(1, 1000000), drain(1, 5))
	isStored(t, b, api.State{Gen: 1, Backends: backends(1, 2), Drains: []api.Drain{{Backend: 1, Until: 8}}})
	goTo(t, b, 2)
	ok(t, b, clear(1))
	does(t, b, clear(1), api.ErrNone, clear(3), api.ErrNone)
	isStored(t, b, api.State{Gen: 1, Backends: backends(1, 2)})
	goTo(t, b, 1, 2)
}

// P25.2
func TestDrainsThatAreDue(t *testing.T) {
	b := made(t, config)
	ok(t, b, gen(1, 2, 3, 4), drain(3, 5), drain(1, 5), drain(2, 4), drain(4, 6), tick(3))
	goTo(t, b)
	ok(t, b, tick(2))
	isStored(t, b, api.State{Gen: 4, Backends: backends(4), Drains: []api.Drain{{Backend: 4, Until: 6}}})
	goTo(t, b)
	ok(t, b, clear(4))
	goTo(t, b, 4)
}

// P25.2, P25.4: a flow that is known stays with a backend that drains, till that leaves
func TestFlowsOfABackendThatDrains(t *testing.T) {
	b := made(t, config)
	ok(t, b, gen(1), packet(5), gen(1, 2), drain(1, 9), packet(5))
	if f := b.State().Flows; len(f) != 1 || f[0] != flow(5, 1, 1, 0) {
		t.Errorf("%v", f)
	}
	ok(t, b, tick(9), packet(5))
	isStored(t, b, api.State{Gen: 3, Backends: backends(2), Flows: []api.Flow{flow(5, 2, 3, 9)}})
}

// P25.2: generations end at a million
func TestTheLastGeneration(t *testing.T) {
	b := made(t, config)
	s, e := store.Open(b.Disk(), 3, 200)
	if e != api.OK || s.Write(api.Record{Kind: api.RGen, Gen: 999999, Backends: backends(1, 2, 3)}) != api.OK || s.Sync() != api.OK {
		t.Fatalf("Open: %d", e)
	}
	ok(t, b, crash(), gen(1, 2))
	isStored(t, b, api.State{Gen: 1000000, Backends: backends(1, 2)})
	ok(t, b, gen(1, 5), drain(1, 1), tick(1))
	isStored(t, b, api.State{Gen: 1000000, Backends: backends(5)})
}

// P25.2
func TestKinds(t *testing.T) {
	b := made(t, config)
	for _, kind := range []int{0, 12, -1, 1 << 40} {
		does(t, b, api.Step{Kind: kind, N: 1, Backends: backends(1)}, api.ErrArg)
	}
	isStored(t, b, api.State{})
}

// R3
func TestNil(t *testing.T) {
	var b *balancer.Balancer
	for kind := range 13 {
		does(t, b, api.Step{Kind: kind}, api.ErrArg)
	}
	is(t, "State", b.State(), api.State{})
	is(t, "Stored", b.Stored(), api.State{})
	is(t, "Sure", b.Sure(), api.State{})
	if b.Now() != 0 || b.Disk() != nil || b.Version() != 0 || b.Lost() != 0 || b.Sick() {
		t.Error("a nil balancer has something")
	}
}
