package upgrade_test

import (
	"math/rand"
	"testing"

	"goit/api"
	"goit/disk"
	"goit/migrate"
	"goit/state"
	"goit/store"
	"goit/upgrade"
)

const plenty = 1 << 20

func put(n int) api.Record {
	return api.Record{Kind: api.RPut, Flow: api.Flow{Tuple: api.Tuple{Src: uint32(n), Dst: 2, Proto: api.TCP, Sport: 3, Dport: 4}, Backend: 7, Gen: 5, Seen: 9}}
}

// written is a store, in a format, of a few records that are sure.
func written(t *testing.T, version int) (*disk.Disk, *store.Store) {
	t.Helper()
	d := disk.New(plenty)
	s, e := store.Create(d, version, 80)
	for _, r := range []api.Record{{Kind: api.RGen, Gen: 3, Backends: []api.Backend{{Id: 7, Addr: 1, Weight: 4}}}, put(2), put(1), {Kind: api.RDrain, Backend: 7, Until: 8}} {
		if e == api.OK {
			e = s.Write(r)
		}
	}
	if e == api.OK {
		e = s.Sync()
	}
	if e != api.OK {
		t.Fatalf("%d", e)
	}
	return d, s
}

// want is what the log has in a format, when it came from another one.
func want(from, to int) api.State {
	gen, seen, weight := 5, int64(9), 4
	if from == 1 {
		gen, seen, weight = 0, 0, 1
		if to > 1 {
			gen = 1
		}
	}
	if from == 2 {
		seen = 0
	}
	v := api.State{Gen: 3, Backends: []api.Backend{{Id: 7, Addr: 1, Weight: weight}}, Drains: []api.Drain{{Backend: 7, Until: 8}}}
	for n := 1; n <= 2; n++ {
		f := put(n).Flow
		f.Gen, f.Seen = gen, seen
		v.Flows = append(v.Flows, f)
	}
	return v
}

// P17.1
func TestImage(t *testing.T) {
	v := want(3, 3)
	for from := 0; from <= 4; from++ {
		for to := 0; to <= 4; to++ {
			a, e := upgrade.Image(v, from, to)
			b, e2 := migrate.State(v, from, to)
			if e != e2 || !state.Same(a, b) {
				t.Errorf("from %d to %d: %d, %v", from, to, e, a)
			}
			if e == api.OK && !state.Same(a, want(from, to)) {
				t.Errorf("from %d to %d: %v", from, to, a)
			}
		}
	}
}

// P17.1
func TestDo(t *testing.T) {
	for from := 1; from <= 3; from++ {
		for to := -1; to <= 5; to++ {
			d, s := written(t, from)
			ops := d.Ops()
			e := upgrade.Do(s, to)
			switch {
			case to < from || to > 3:
				if e != api.ErrVersion || d.Ops() != ops || s.Version() != from {
					t.Errorf("from %d to %d: %d", from, to, e)
				}
				continue
			case to == from && d.Ops() != ops:
				t.Errorf("to its own format %d something is done", to)
			}
			if e != api.OK || s.Version() != to || !state.Same(s.State().View(), want(from, to)) || !state.Same(s.Sure(), want(from, to)) {
				t.Errorf("from %d to %d: %d, version %d, %v", from, to, e, s.Version(), s.State().View())
			}
			d.Crash(nil)
			o, e := store.Open(d, 3, 80)
			if e != api.OK || o.Version() != to || !state.Same(o.State().View(), want(from, to)) {
				t.Errorf("from %d to %d, opened again: %d", from, to, e)
			}
		}
	}
	for _, to := range []int{1, 0} {
		if e := upgrade.Do(nil, to); e != api.ErrArg {
			t.Errorf("of no store: %d", e)
		}
	}
}

// P17.1
func TestDoTellsItsError(t *testing.T) {
	d, s := written(t, 1)
	d.Fail(1)
	if e := upgrade.Do(s, 3); e != api.ErrFault || s.Version() != 1 || !state.Same(s.State().View(), want(1, 1)) {
		t.Errorf("%d, version %d", e, s.Version())
	}
}

// P17.2
func TestCrashInDo(t *testing.T) {
	r := rand.New(rand.NewSource(1))
	for run := range 400 {
		from := 1 + run%2
		d, s := written(t, from)
		d.Fail(r.Intn(16))
		e := upgrade.Do(s, 3)
		picks := make([]byte, r.Intn(8))
		r.Read(picks)
		d.Crash(picks)
		o, e2 := store.Open(d, 3, 80)
		if e2 != api.OK {
			t.Fatalf("run %d: behind Do (%d) and Crash(%x): %d", run, e, picks, e2)
		}
		version := o.Version()
		if (version != from || e == api.OK) && version != 3 {
			t.Fatalf("run %d: behind Do (%d) in format %d", run, e, version)
		}
		if !state.Same(o.State().View(), want(from, version)) {
			t.Fatalf("run %d: in format %d: %v", run, version, o.State().View())
		}
		if e := upgrade.Do(o, 3); e != api.OK || !state.Same(o.State().View(), want(from, 3)) {
			t.Fatalf("run %d: done again %d, %v", run, e, o.State().View())
		}
	}
}
