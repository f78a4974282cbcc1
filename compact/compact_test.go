package compact_test

import (
	"math/rand"
	"testing"

	"goit/api"
	"goit/compact"
	"goit/disk"
	"goit/state"
	"goit/store"
)

const plenty = 1 << 20

func put(n int) api.Record {
	return api.Record{Kind: api.RPut, Flow: api.Flow{Tuple: api.Tuple{Src: uint32(n), Dst: 2, Proto: api.TCP, Sport: 3, Dport: 4}, Backend: 7, Gen: 5, Seen: 9}}
}

func del(n int) api.Record { return api.Record{Kind: api.RDel, Flow: put(n).Flow} }

func gen(ids ...int) api.Record {
	r := api.Record{Kind: api.RGen, Gen: 3}
	for _, id := range ids {
		r.Backends = append(r.Backends, api.Backend{Id: id, Addr: 9, Weight: 2})
	}
	return r
}

func drain(b int) api.Record { return api.Record{Kind: api.RDrain, Backend: b, Until: 8} }

// written is a store of records.
func written(t *testing.T, version, size int, l ...api.Record) (*disk.Disk, *store.Store) {
	t.Helper()
	d := disk.New(plenty)
	s, e := store.Create(d, version, size)
	for i, r := range l {
		if e == api.OK {
			e = s.Write(r)
		}
		if e != api.OK {
			t.Fatalf("record %d: %d", i, e)
		}
	}
	return d, s
}

func bound(s *store.Store) int { return compact.Bound(s.State().View(), s.Version(), 100) }

// P16.1, P16.2
func TestDo(t *testing.T) {
	for version := 1; version <= 3; version++ {
		d, s := written(t, version, 60, gen(1), put(1), put(2), drain(1), put(1), del(2), gen(1, 2))
		was := s.State().View()
		if e := compact.Do(s); e != api.OK {
			t.Fatalf("Do: %d", e)
		}
		if s.Size() != bound(s) || s.Version() != version || !state.Same(s.State().View(), was) || !state.Same(s.Sure(), was) {
			t.Errorf("format %d: %d bytes of %d, %v", version, s.Size(), bound(s), s.State().View())
		}
		d.Crash(nil)
		o, e := store.Open(d, 3, 60)
		if e != api.OK || !state.Same(o.State().View(), was) || o.Version() != version {
			t.Errorf("format %d: opened again %d", version, e)
		}
	}
	_, s := written(t, 3, 100, put(1), del(1))
	if e := compact.Do(s); e != api.OK || s.Size() != 21 {
		t.Errorf("of nothing: %d, %d bytes", e, s.Size())
	}
	if e := compact.Do(nil); e != api.ErrArg {
		t.Errorf("of no store: %d", e)
	}
}

// P16.1
func TestDoTellsItsError(t *testing.T) {
	d, s := written(t, 3, 100, put(1), put(2), del(2))
	was, size := s.State().View(), s.Size()
	d.Fail(1)
	if e := compact.Do(s); e != api.ErrFault || s.Size() != size || !state.Same(s.State().View(), was) {
		t.Errorf("%d, %d bytes", e, s.Size())
	}
	if e := compact.Do(s); e != api.OK || s.Size() != bound(s) {
		t.Errorf("again: %d, %d bytes", e, s.Size())
	}
}

// P16.1
func TestBound(t *testing.T) {
	whole := state.New()
	for _, r := range []api.Record{gen(1, 2), drain(1), put(1), put(2)} {
		whole.Apply(r)
	}
	few := whole.View()
	few.Flows = few.Flows[:1]
	bad := whole.View()
	bad.Flows[0], bad.Flows[1] = bad.Flows[1], bad.Flows[0]
	for i, x := range []struct {
		v       api.State
		version int
		want    int
	}{
		{api.State{}, 1, 21}, {api.State{}, 3, 21},
		{few, 1, 16 + 5 + 12 + 16 + 10 + 16 + 15}, {few, 2, 16 + 5 + 14 + 16 + 10 + 16 + 19}, {few, 3, 16 + 5 + 14 + 16 + 10 + 16 + 27},
		{whole.View(), 3, 16 + 5 + 14 + 16 + 10 + 2*(16+27)},
		{few, 0, 0}, {few, 4, 0}, {few, -1, 0}, {bad, 3, 0},
	} {
		for _, size := range []int{-1, 0, 100, plenty} {
			if got := compact.Bound(x.v, x.version, size); got != x.want {
				t.Errorf("%d: %d, not %d", i, got, x.want)
			}
		}
	}
}

// P16.1
func TestNeeds(t *testing.T) {
	_, s := written(t, 3, plenty)
	for range 2 { // 43 bytes each; 21 and 43 would do
		if s.Write(put(1)) != api.OK || compact.Needs(s, 0) {
			t.Errorf("%d bytes: it needs it", s.Size())
		}
	}
	want := false
	for range 4 {
		want = s.Size() > 2*(21+43)
		if got := compact.Needs(s, 0); got != want {
			t.Errorf("%d bytes: %v", s.Size(), got)
		}
		if s.Write(put(1)) != api.OK {
			t.Error("Write")
		}
	}
	if !want || compact.Needs(s, s.Size()) || compact.Needs(s, plenty) {
		t.Errorf("%d bytes", s.Size())
	}
	_, twice := written(t, 3, plenty, gen(), gen())
	if twice.Size() != 42 || compact.Needs(twice, 0) || twice.Write(gen()) != api.OK || !compact.Needs(twice, 0) {
		t.Errorf("%d bytes, of which 21 would do", twice.Size())
	}
	if compact.Needs(nil, 0) || compact.Needs(nil, -1) {
		t.Error("no store needs it")
	}
	if compact.Do(s) != api.OK || compact.Needs(s, 0) {
		t.Error("it needs it again")
	}
}

// P16.2: behind a crash in it, too
func TestCrashInDo(t *testing.T) {
	r := rand.New(rand.NewSource(1))
	for run := range 300 {
		d, s := written(t, 3, 16+r.Intn(100), gen(1), put(1), put(2), del(1), put(3))
		if e := s.Sync(); e != api.OK {
			t.Fatalf("Sync: %d", e)
		}
		was := s.State().View()
		d.Fail(r.Intn(16))
		e := compact.Do(s)
		if !state.Same(s.State().View(), was) {
			t.Fatalf("run %d: Do changes the state", run)
		}
		picks := make([]byte, r.Intn(8))
		r.Read(picks)
		d.Crash(picks)
		o, e2 := store.Open(d, 3, 100)
		if e2 != api.OK || !state.Same(o.State().View(), was) || (e == api.OK && o.Size() != bound(o)) {
			t.Fatalf("run %d: behind Do (%d) and Crash(%x): %d", run, e, picks, e2)
		}
	}
}
