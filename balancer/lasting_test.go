package balancer_test

import (
	"slices"
	"testing"

	"goit/api"
	"goit/balancer"
	"goit/compact"
	"goit/disk"
	"goit/migrate"
	"goit/record"
	"goit/state"
	"goit/store"
)

// asIn is a state as a format keeps it.
func asIn(v api.State, version int) api.State {
	v, _ = migrate.State(v, version, version)
	return v
}

// P25.2: records are written in the log's format; the process keeps its own
func TestWriteInOlderFormats(t *testing.T) {
	for version := 1; version <= 3; version++ {
		b := made(t, with(func(c *api.Config) { c.Version = version }))
		ok(t, b, gen(7), tick(5), packet(1), drain(7, 9))
		want := api.State{Gen: 1, Backends: backends(7), Drains: []api.Drain{{Backend: 7, Until: 14}}, Flows: []api.Flow{flow(1, 7, 1, 5)}}
		is(t, "State", b.State(), want)
		is(t, "Stored", b.Stored(), asIn(want, version))
	}
}

// P25.2
func TestSick(t *testing.T) {
	b := made(t, config)
	ok(t, b, gen(7), packet(1), fault(2), packet(2))
	if b.Sick() || b.Lost() != 0 {
		t.Error("it is sick too soon")
	}
	ok(t, b, packet(3))
	written := api.State{Gen: 1, Backends: backends(7), Flows: []api.Flow{flow(1, 7, 1, 0), flow(2, 7, 1, 0)}}
	all := api.State{Gen: 1, Backends: backends(7), Flows: []api.Flow{flow(1, 7, 1, 0), flow(2, 7, 1, 0), flow(3, 7, 1, 0)}}
	is(t, "State", b.State(), all)
	is(t, "Stored", b.Stored(), written)
	if !b.Sick() || b.Lost() != 1 {
		t.Errorf("sick %v, %d lost", b.Sick(), b.Lost())
	}
	ops := b.Disk().Ops()
	ok(t, b, packet(4), last(1), packet(3)) // what is touched is not written
	does(t, b, sync, api.ErrState)
	is(t, "Stored", b.Stored(), written)
	if b.Lost() != 3 || b.Disk().Ops() != ops {
		t.Errorf("%d lost, %d operations", b.Lost(), b.Disk().Ops()-ops)
	}
	ok(t, b, shorten)
	isStored(t, b, api.State{Gen: 1, Backends: backends(7), Flows: []api.Flow{flow(2, 7, 1, 0), flow(3, 7, 1, 0), flow(4, 7, 1, 0)}})
	is(t, "Sure", b.Sure(), b.State())
	if b.Sick() || b.Lost() != 3 {
		t.Errorf("sick %v, %d lost", b.Sick(), b.Lost())
	}
	ok(t, b, packet(5), sync)
	is(t, "Sure", b.Sure(), b.State())
}

// P25.2: no room is an error like any other
func TestSickByItsQuota(t *testing.T) {
	b := made(t, with(func(c *api.Config) { c.Quota = 150 }))
	ok(t, b, gen(7), packet(1), packet(2), packet(3))
	if !b.Sick() || b.Lost() == 0 || len(b.State().Flows) != 3 || len(b.Stored().Flows) >= 3 {
		t.Errorf("sick %v, %d lost, %v", b.Sick(), b.Lost(), b.Stored())
	}
	does(t, b, shorten, api.ErrQuota)
	if !b.Sick() {
		t.Error("it is well")
	}
}

// P25.2: what a step writes, it writes in order; what fails ends it
func TestRecordsInOrder(t *testing.T) {
	flows := []api.Flow{flow(1, 9, 1, 1), flow(2, 9, 1, 0), flow(3, 9, 1, 0)}
	drains := []api.Drain{{Backend: 1, Until: 31}, {Backend: 2, Until: 30}, {Backend: 9, Until: 50}}
	first := api.State{Gen: 2, Backends: backends(1, 2, 9), Drains: drains, Flows: flows}
	after := func(change func(v *api.State)) api.State {
		v := first
		v.Flows, v.Drains = slices.Clone(flows), slices.Clone(drains)
		change(&v)
		return v
	}
	for name, x := range map[string]struct {
		step   api.Step
		stored []api.State // by how many of its records are written
	}{
		"tick": {tick(31), []api.State{
			first,
			after(func(v *api.State) { v.Flows = []api.Flow{flows[0], flows[2]} }),
			after(func(v *api.State) { v.Flows = flows[:1] }),
			after(func(v *api.State) { v.Flows = nil }),
			after(func(v *api.State) { v.Flows, v.Drains = nil, []api.Drain{drains[0], drains[2]} }),
			after(func(v *api.State) {
				v.Flows, v.Drains, v.Gen, v.Backends = nil, []api.Drain{drains[0], drains[2]}, 3, backends(1, 9)
			}),
			after(func(v *api.State) { v.Flows, v.Drains, v.Gen, v.Backends = nil, drains[2:], 3, backends(1, 9) }),
			after(func(v *api.State) { v.Flows, v.Drains, v.Gen, v.Backends = nil, drains[2:], 4, backends(9) }),
		}},
		"gen": {gen(2, 5), []api.State{
			first,
			after(func(v *api.State) { v.Drains = drains[1:] }),
			after(func(v *api.State) { v.Drains = drains[1:2] }),
			after(func(v *api.State) { v.Drains, v.Gen, v.Backends = drains[1:2], 3, backends(2, 5) }),
		}},
	} {
		for n, want := range x.stored {
			b := made(t, with(func(c *api.Config) { c.Segment = api.MaxFile }))
			ok(t, b, gen(9), packet(3), packet(2), tick(1), packet(1), gen(1, 2, 9), drain(9, 49), drain(2, 29), drain(1, 30), fault(n+1), x.step)
			is(t, name, b.Stored(), want)
			lost := len(x.stored) - 1 - n
			if b.Lost() != lost || b.Sick() != (lost > 0) {
				t.Errorf("%s, the record behind %d fails: %d are lost", name, n, b.Lost())
			}
		}
	}
}

// P25.2
func TestSync(t *testing.T) {
	b := made(t, config)
	ok(t, b, gen(7), fault(1))
	does(t, b, sync, api.ErrFault)
	is(t, "Sure", b.Sure(), api.State{})
	if b.Sick() {
		t.Error("a Sync that fails loses no record")
	}
	ok(t, b, sync)
	is(t, "Sure", b.Sure(), api.State{Gen: 1, Backends: backends(7)})
}

// P25.2
func TestCompact(t *testing.T) {
	b := made(t, config)
	ok(t, b, gen(7), packet(1), packet(2), last(2), tick(3), packet(1), fault(1))
	was := b.Stored()
	does(t, b, shorten, api.ErrFault)
	is(t, "Stored", b.Stored(), was)
	ok(t, b, shorten)
	isStored(t, b, api.State{Gen: 1, Backends: backends(7), Flows: []api.Flow{flow(1, 7, 1, 3)}}) // it was seen since it was written
	size := 0
	for _, name := range b.Disk().Names() {
		if x, _ := b.Disk().Read(name); name != "m" {
			size += len(x)
		}
	}
	if size != compact.Bound(b.State(), 3, 200) || b.Version() != 3 {
		t.Errorf("%d bytes", size)
	}
}

// P25.2
func TestUpgrade(t *testing.T) {
	for from := 1; from <= 3; from++ {
		for to := -1; to <= 4; to++ {
			b := made(t, with(func(c *api.Config) { c.Version = from }))
			ok(t, b, gen(7), tick(5), packet(1))
			was, stored := b.State(), b.Stored()
			if to < from || to > 3 {
				does(t, b, upgrade(to), api.ErrVersion)
				is(t, "Stored", b.Stored(), stored)
				continue
			}
			ok(t, b, fault(1))
			does(t, b, upgrade(to), api.ErrFault)
			is(t, "Stored", b.Stored(), stored)
			ok(t, b, packet(2), packet(2), fault(1), last(2))
			if !b.Sick() || b.Version() != from {
				t.Errorf("from %d to %d: sick %v, version %d", from, to, b.Sick(), b.Version())
			}
			ok(t, b, upgrade(to))
			image, _ := migrate.State(was, from, to)
			is(t, "State", b.State(), was)
			is(t, "Stored", b.Stored(), image)
			is(t, "Sure", b.Sure(), image)
			if b.Sick() || b.Version() != to || b.Lost() != 1 {
				t.Errorf("from %d to %d: sick %v, version %d, %d lost", from, to, b.Sick(), b.Version(), b.Lost())
			}
		}
	}
}

// P25.2: the manifest counts, but its name is not sure
func TestUpgradeThatIsLoose(t *testing.T) {
	for _, sick := range []bool{false, true} {
		b := made(t, with(func(c *api.Config) { c.Version = 1 }))
		ok(t, b, gen(7), packet(1), sync)
		if sick {
			ok(t, b, fault(1), packet(2))
		}
		sure := b.Sure()
		n := swapOps(t, b.Disk().Copy(), b.State())
		ok(t, b, fault(n))
		does(t, b, upgrade(3), api.ErrFault)
		image, _ := migrate.State(b.State(), 1, 3)
		is(t, "Stored", b.Stored(), image)
		is(t, "Sure", b.Sure(), sure)
		if b.Version() != 3 || b.Sick() != sick {
			t.Errorf("version %d, sick %v", b.Version(), b.Sick())
		}
	}
}

// swapOps is which operation of an upgrade to format 3 is the SyncDir behind which its manifest is sure.
func swapOps(t *testing.T, d *disk.Disk, v api.State) int {
	t.Helper()
	for n := 1; ; n++ {
		c := d.Copy()
		s, e := store.Open(c, 3, 200)
		if e != api.OK {
			t.Fatalf("Open: %d", e)
		}
		image, _ := migrate.State(v, s.Version(), 3)
		st, _ := state.Of(image)
		c.Fail(n)
		e = s.Swap(3, st)
		if e == api.OK {
			t.Fatal("no operation leaves it loose")
		}
		if s.Version() == 3 {
			return n
		}
	}
}

// P25.2, P25.5
func TestCrash(t *testing.T) {
	b := made(t, config)
	ok(t, b, gen(1, 2), packet(1), drain(2, 9), tick(1), sync, tick(1), packet(2), packet(3))
	at := slices.IndexFunc(b.State().Flows, func(f api.Flow) bool { return f.Tuple == tup(1) })
	first := b.State().Flows[at].Backend
	ok(t, b, crash(0, 0))
	isSeen := api.State{Gen: 1, Backends: backends(1, 2), Drains: []api.Drain{{Backend: 2, Until: 9}}, Flows: []api.Flow{flow(1, first, 1, 2)}}
	is(t, "State", b.State(), isSeen)
	isSeen.Flows[0].Seen = 0
	is(t, "Stored", b.Stored(), isSeen)
	is(t, "Sure", b.Sure(), isSeen)
	if b.Now() != 2 || b.Sick() {
		t.Errorf("at %d, sick %v", b.Now(), b.Sick())
	}
	goTo(t, b, 1)
	if o, _ := b.Do(packet(1)); o.Backend != first {
		t.Errorf("%v", o)
	}
	ok(t, b, tick(7))
	is(t, "State", b.State(), api.State{Gen: 2, Backends: backends(1), Flows: []api.Flow{flow(1, first, 1, 2)}})
}

// P25.2
func TestCrashHeals(t *testing.T) {
	b := made(t, config)
	ok(t, b, gen(7), sync, packet(1), fault(1), packet(2), fault(1), crash(0, 255))
	if b.Sick() || b.Lost() != 1 {
		t.Errorf("sick %v, %d lost", b.Sick(), b.Lost())
	}
	ok(t, b, packet(3), sync) // what was to fail is forgotten
	is(t, "Sure", b.Sure(), b.Stored())
}

// P25.2: as many as there is room for, by tuple; the others are neither kept nor written
func TestBeginAnewWithTooManyFlows(t *testing.T) {
	b := made(t, with(func(c *api.Config) { c.Flows = 2 }))
	ok(t, b, gen(7), tick(4))
	s, e := store.Open(b.Disk(), 3, 200)
	if e != api.OK {
		t.Fatalf("Open: %d", e)
	}
	for _, n := range []int{4, 2, 3, 1} {
		if e := s.Write(api.Record{Kind: api.RPut, Flow: flow(n, 7, 1, 1)}); e != api.OK {
			t.Fatalf("Write: %d", e)
		}
	}
	s.Sync()
	ok(t, b, crash())
	is(t, "State", b.State(), api.State{Gen: 1, Backends: backends(7), Flows: []api.Flow{flow(1, 7, 1, 4), flow(2, 7, 1, 4)}})
	if v := b.Stored(); len(v.Flows) != 4 || !record.Same(api.Record{Kind: api.RPut, Flow: v.Flows[3]}, api.Record{Kind: api.RPut, Flow: flow(4, 7, 1, 1)}) {
		t.Errorf("%v", v)
	}
}

// P25.2: who drains, but is no backend, makes no generation when it is due
func TestADrainOfNoBackend(t *testing.T) {
	b := made(t, config)
	ok(t, b, gen(7))
	s, e := store.Open(b.Disk(), 3, 200)
	if e != api.OK || s.Write(api.Record{Kind: api.RDrain, Backend: 9, Until: 2}) != api.OK || s.Sync() != api.OK {
		t.Fatalf("Open: %d", e)
	}
	ok(t, b, crash(), tick(1))
	isStored(t, b, api.State{Gen: 1, Backends: backends(7), Drains: []api.Drain{{Backend: 9, Until: 2}}})
	ok(t, b, tick(1))
	isStored(t, b, api.State{Gen: 1, Backends: backends(7)})
}

// lose takes the manifest away, and tells what it was.
func lose(t *testing.T, b *balancer.Balancer) []byte {
	t.Helper()
	m, _ := b.Disk().Read("m")
	if b.Disk().Remove("m") != api.OK || b.Disk().SyncDir() != api.OK {
		t.Fatal("m is there yet")
	}
	return m
}

// isGone tells whether a balancer that could not begin anew is what it should be.
func isGone(t *testing.T, b *balancer.Balancer, stored, sure api.State) {
	t.Helper()
	is(t, "State", b.State(), api.State{})
	is(t, "Stored", b.Stored(), stored)
	is(t, "Sure", b.Sure(), sure)
	for kind := api.SPacket; kind <= api.SHand; kind++ {
		if s := packet(1); kind != api.SCrash {
			s.Kind, s.N = kind, -1
			does(t, b, s, api.ErrState)
		}
	}
	does(t, b, api.Step{}, api.ErrArg, api.Step{Kind: 12}, api.ErrArg)
	if b.Now() != 3 || b.Version() != 2 {
		t.Errorf("at %d, version %d", b.Now(), b.Version())
	}
}

// P25.2
func TestCannotBeginAnew(t *testing.T) {
	b := made(t, with(func(c *api.Config) { c.Version = 2 }))
	ok(t, b, gen(7), tick(3), sync, packet(1))
	stored, sure, m := b.Stored(), b.Sure(), lose(t, b)
	does(t, b, crash(), api.ErrNone)
	isGone(t, b, stored, sure)
	does(t, b, crash(1, 2, 3), api.ErrNone)
	d := b.Disk()
	if d.Append("m", m) != api.OK || d.Sync("m") != api.OK || d.SyncDir() != api.OK {
		t.Fatal("m is not there")
	}
	ok(t, b, crash(), packet(1), sync)
	if b.Now() != 3 || b.Version() != 2 || len(b.State().Flows) != 1 {
		t.Errorf("%v", b.State())
	}
}

// P25.2
func TestHand(t *testing.T) {
	b := made(t, config)
	ok(t, b, gen(1, 2), tick(3), packet(1), drain(2, 9), tick(2), packet(1), packet(2), last(2))
	was, stored, sure, ops := b.State(), b.Stored(), b.Sure(), b.Disk().Ops()
	ok(t, b, hand(-1, 0), hand(-1, 5), hand(-1<<63, 1))
	is(t, "State", b.State(), was)
	is(t, "Stored", b.Stored(), stored)
	is(t, "Sure", b.Sure(), sure)
	if b.Now() != 5 || b.Disk().Ops() != ops || b.Sick() {
		t.Errorf("at %d, %d operations", b.Now(), b.Disk().Ops()-ops)
	}
	goTo(t, b, 1)
	ok(t, b, fault(1), packet(9), hand(-1, 0))
	if !b.Sick() || len(b.State().Flows) != 2 || len(b.Stored().Flows) != 1 {
		t.Errorf("sick %v, %v", b.Sick(), b.State())
	}
}

// P25.2
func TestHandThatIsRefused(t *testing.T) {
	for _, x := range [][2]int{{0, 0}, {5, 0}, {1 << 62, 0}, {0, 1}, {7, 256}, {7, -256}, {1 << 62, 255}, {9, -1}, {1000, 0}, {1000, 7}} {
		b := made(t, config)
		ok(t, b, gen(1), tick(3), packet(1), sync, tick(1), packet(1), packet(2), fault(2), packet(3), packet(4))
		stored := b.Stored()
		does(t, b, hand(x[0], x[1]), api.ErrCut)
		is(t, "Stored", b.Stored(), stored) // what was written is there, sure or not
		is(t, "Sure", b.Sure(), stored)
		for i := range stored.Flows {
			stored.Flows[i].Seen = 4
		}
		is(t, "State", b.State(), stored)
		if b.Sick() || b.Now() != 4 || len(stored.Flows) != 3 {
			t.Errorf("cut at %d, %d: sick %v, at %d, %v", x[0], x[1], b.Sick(), b.Now(), stored)
		}
	}
}

// P25.2
func TestHandThatIsRefusedAndCannotBeginAnew(t *testing.T) {
	b := made(t, with(func(c *api.Config) { c.Version = 2 }))
	ok(t, b, gen(7), tick(3), sync, packet(1))
	stored, sure := b.Stored(), b.Sure()
	lose(t, b)
	does(t, b, hand(0, 0), api.ErrCut)
	isGone(t, b, stored, sure)
}
