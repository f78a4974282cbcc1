package store_test

import (
	"slices"
	"strings"
	"testing"

	"goit/api"
	"goit/disk"
	"goit/frame"
	"goit/manifest"
	"goit/record"
	"goit/seglog"
	"goit/state"
	"goit/store"
)

const plenty = 1 << 20

func tup(n int) api.Tuple {
	return api.Tuple{Src: uint32(n) << 20, Dst: 2, Proto: api.TCP, Sport: 3, Dport: 4}
}

func put(n int) api.Record {
	return api.Record{Kind: api.RPut, Flow: api.Flow{Tuple: tup(n), Backend: 7, Gen: 5, Seen: 9}}
}

func del(n int) api.Record { return api.Record{Kind: api.RDel, Flow: api.Flow{Tuple: tup(n)}} }

func gen(n int, weights ...int) api.Record {
	r := api.Record{Kind: api.RGen, Gen: n}
	for i, w := range weights {
		r.Backends = append(r.Backends, api.Backend{Id: i, Addr: 9, Weight: w})
	}
	return r
}

// want fails the test unless each answer is the one that stands behind it.
func want(t *testing.T, answers ...api.Errno) {
	t.Helper()
	for i := 0; i+1 < len(answers); i += 2 {
		if answers[i] != answers[i+1] {
			t.Errorf("answer %d: %d, not %d", i/2, answers[i], answers[i+1])
		}
	}
}

// of is the state that records make, as a format keeps them.
func of(t *testing.T, version int, l ...api.Record) api.State {
	t.Helper()
	s := state.New()
	for _, r := range l {
		want(t, s.Apply(record.In(r, version)), api.OK)
	}
	return s.View()
}

func is(t *testing.T, what string, got, want api.State) {
	t.Helper()
	if !state.Same(got, want) {
		t.Errorf("%s: %v, not %v", what, got, want)
	}
}

func create(t *testing.T, version, size int) (*disk.Disk, *store.Store) {
	t.Helper()
	d := disk.New(plenty)
	s, e := store.Create(d, version, size)
	if e != api.OK {
		t.Fatalf("Create: %d", e)
	}
	return d, s
}

func open(t *testing.T, d *disk.Disk) *store.Store {
	t.Helper()
	s, e := store.Open(d, 3, 100)
	if e != api.OK || s == nil {
		t.Fatalf("Open: %d", e)
	}
	return s
}

// P15.1
func TestCreate(t *testing.T) {
	for version := 1; version <= 3; version++ {
		d, s := create(t, version, 100)
		is(t, "State", s.State().View(), api.State{})
		is(t, "Sure", s.Sure(), api.State{})
		if s.Version() != version || s.Size() != 0 || s.Segs() != 1 {
			t.Errorf("version %d, %d bytes, %d segments", s.Version(), s.Size(), s.Segs())
		}
		if v, e := store.Peek(d); v != version || e != api.OK {
			t.Errorf("Peek: %d, %d", v, e)
		}
		if s, e := store.Create(d, version, 100); s != nil || e != api.ErrState {
			t.Errorf("again: %d", e)
		}
	}
	for _, x := range []struct {
		d       *disk.Disk
		version int
		want    api.Errno
	}{{nil, 1, api.ErrArg}, {disk.New(plenty), 0, api.ErrVersion}, {disk.New(plenty), 4, api.ErrVersion}, {disk.New(3), 1, api.ErrQuota}} {
		if s, e := store.Create(x.d, x.version, 100); s != nil || e != x.want {
			t.Errorf("Create in format %d: %d, not %d", x.version, e, x.want)
		}
	}
}

// raw is a disk with a log of frames that no store has written.
func raw(t *testing.T, version int, frames ...api.Frame) *disk.Disk {
	t.Helper()
	d := disk.New(plenty)
	l, e := seglog.Create(d, version, 100)
	want(t, e, api.OK)
	for _, f := range frames {
		want(t, l.Append(f.Kind, f.Body), api.OK)
	}
	return d
}

// withManifest is a disk with nothing but a manifest.
func withManifest(b []byte) *disk.Disk {
	d := disk.New(plenty)
	d.Append("m", b)
	return d
}

// P15.1
func TestPeek(t *testing.T) {
	good, _ := manifest.Encode(api.Manifest{Version: 2, Next: 2, Segs: []int{1}})
	noVersion, _ := frame.Put(api.Frame{Kind: 100, Version: 9})
	for name, x := range map[string]struct {
		d       *disk.Disk
		version int
		want    api.Errno
	}{
		"no disk": {nil, 0, api.ErrArg}, "no file": {disk.New(9), 0, api.ErrNone}, "a manifest": {withManifest(good), 2, api.OK}, "an empty one": {withManifest(nil), 0, api.ErrShort},
		"another form": {withManifest(append(good[:len(good):len(good)], 0)), 0, api.ErrForm}, "another version": {withManifest(noVersion), 0, api.ErrVersion},
	} {
		if v, e := store.Peek(x.d); v != x.version || e != x.want {
			t.Errorf("%s: %d, %d", name, v, e)
		}
		if x.want != api.OK {
			if s, e := store.Open(x.d, 0, 100); s != nil || e != x.want {
				t.Errorf("Open, %s: %d", name, e)
			}
		}
	}
}

// P15.1
func TestOpen(t *testing.T) {
	d, s := create(t, 2, 60)
	l := []api.Record{gen(3, 1, 2), put(1), put(2), {Kind: api.RDrain, Backend: 1, Until: 8}, del(1), {Kind: api.RDrain, Backend: 2, Until: 9}, {Kind: api.RClear, Backend: 1}}
	for _, r := range l {
		want(t, s.Write(r), api.OK)
	}
	want(t, d.Append("m.new", nil), api.OK, d.Append("s000077", nil), api.OK, d.Append("other", nil), api.OK)
	for _, version := range []int{2, 3} {
		o, e := store.Open(d.Copy(), version, 60)
		want(t, e, api.OK)
		is(t, "State", o.State().View(), of(t, 2, l...))
		is(t, "Sure", o.Sure(), of(t, 2, l...))
		if o.Version() != 2 || o.Size() != s.Size() || o.Segs() != s.Segs() || o.Segs() < 2 {
			t.Errorf("version %d, %d bytes, %d segments", o.Version(), o.Size(), o.Segs())
		}
	}
	open(t, d)
	if names := strings.Join(d.Names(), " "); strings.Contains(names, "m.new") || strings.Contains(names, "s000077") || !strings.Contains(names, "other") {
		t.Errorf("files %s", names)
	}
}

// P15.1, P15.5: a version that is too low changes no byte
func TestOpenOfANewerFormat(t *testing.T) {
	d, s := create(t, 2, 60)
	want(t, s.Write(put(1)), api.OK, d.Append("s000001", []byte("torn")), api.OK, d.Append("m.new", nil), api.OK)
	for _, version := range []int{1, 0, -1, 4} {
		ops, size := d.Ops(), d.Size()
		if s, e := store.Open(d, version, 60); s != nil || e != api.ErrVersion || d.Ops() != ops || d.Size() != size {
			t.Errorf("version %d: %d, %d operations", version, e, d.Ops()-ops)
		}
	}
}

// P15.1
func TestOpenRefuses(t *testing.T) {
	encoded := func(r api.Record, version int) api.Frame {
		f, _ := record.Encode(r, version)
		return f
	}
	rows := func(n int) []api.Frame {
		var l []api.Frame
		for i := range n {
			l = append(l, encoded(put(i), 1))
		}
		return l
	}
	full := disk.New(plenty)
	l, _ := seglog.Create(full, 1, plenty)
	want(t, l.Swap(1, rows(api.MaxFlows+1)), api.OK)
	gone := raw(t, 1)
	want(t, gone.Remove("s000001"), api.OK)
	broken := raw(t, 1, encoded(put(1), 1))
	broken.Fail(1)
	for name, x := range map[string]struct {
		d    *disk.Disk
		want api.Errno
	}{
		"no record":            {raw(t, 3, encoded(put(1), 3), api.Frame{Kind: 9}), api.ErrForm},
		"a body of another":    {raw(t, 3, encoded(put(1), 1)), api.ErrForm},
		"the end of a stream":  {raw(t, 3, encoded(api.Record{Kind: api.REnd, Count: 1}, 3)), api.ErrForm},
		"no set of backends":   {raw(t, 3, encoded(api.Record{Kind: api.RGen, Backends: []api.Backend{{Id: 2, Weight: 1}, {Id: 1, Weight: 1}}}, 3)), api.ErrArg},
		"more flows":           {full, api.ErrFull},
		"a segment is missing": {gone, api.ErrNone},
		"the disk fails":       {broken, api.ErrFault},
	} {
		if s, e := store.Open(x.d, 3, 100); s != nil || e != x.want {
			t.Errorf("%s: %d, not %d", name, e, x.want)
		}
	}
}

// P15.2
func TestWrite(t *testing.T) {
	for version := 1; version <= 3; version++ {
		d, s := create(t, version, plenty)
		var frames []byte
		l := []api.Record{gen(3, 4, 5), put(1), put(2), del(2)}
		l[1].Gen, l[1].Count = 99, 99 // what its kind has not
		for _, r := range l {
			want(t, s.Write(r), api.OK)
			f, _ := record.Encode(r, version)
			b, _ := frame.Put(f)
			frames = append(frames, b...)
		}
		l[0].Backends[0].Id = 99
		is(t, "State", s.State().View(), of(t, version, gen(3, 4, 5), put(1)))
		is(t, "Sure", s.Sure(), api.State{})
		if b, _ := d.Read("s000001"); !slices.Equal(b, frames) || s.Size() != len(frames) {
			t.Errorf("format %d: %x", version, b)
		}
		is(t, "opened again", open(t, d).State().View(), s.State().View())
	}
}

// P15.2
func TestWriteRefuses(t *testing.T) {
	d, s := create(t, 3, plenty)
	for i := range api.MaxFlows {
		want(t, s.Write(put(i)), api.OK)
	}
	was, ops := s.State().View(), d.Ops()
	bad := put(1)
	bad.Flow.Backend = -1
	want(t, s.Write(bad), api.ErrArg, s.Write(api.Record{}), api.ErrArg, s.Write(api.Record{Kind: api.REnd}), api.ErrArg,
		s.Write(api.Record{Kind: api.RGen, Backends: []api.Backend{{Id: 2, Weight: 1}, {Id: 1, Weight: 1}}}), api.ErrArg, s.Write(put(999)), api.ErrFull)
	if d.Ops() != ops {
		t.Error("what is refused is written")
	}
	d.Fail(1)
	want(t, s.Write(put(1)), api.ErrFault, s.Write(del(3)), api.OK)
	was.Flows = slices.Delete(was.Flows, 3, 4)
	is(t, "State", s.State().View(), was)
	is(t, "opened again", open(t, d).State().View(), was)
}

// P15.2
func TestSync(t *testing.T) {
	d, s := create(t, 1, plenty)
	want(t, s.Write(put(1)), api.OK)
	d.Fail(1)
	want(t, s.Sync(), api.ErrFault)
	is(t, "Sure", s.Sure(), api.State{})
	want(t, s.Sync(), api.OK, s.Write(put(2)), api.OK)
	is(t, "Sure", s.Sure(), of(t, 1, put(1)))
	is(t, "State", s.State().View(), of(t, 1, put(1), put(2)))
	s.Sure().Flows[0].Backend = 99
	is(t, "Sure", s.Sure(), of(t, 1, put(1)))
	d.Crash([]byte{0, 0, 10})
	is(t, "behind a crash", open(t, d).State().View(), of(t, 1, put(1)))
}

// P15.3
func TestSwap(t *testing.T) {
	d, s := create(t, 1, 60)
	want(t, s.Write(put(1)), api.OK)
	st := state.New()
	for _, r := range []api.Record{gen(3, 4, 5), put(2), put(1)} {
		want(t, st.Apply(r), api.OK)
	}
	for _, version := range []int{1, 2, 2, 3} {
		want(t, s.Swap(version, st), api.OK)
		is(t, "State", s.State().View(), of(t, version, st.Records()...))
		is(t, "Sure", s.Sure(), of(t, version, st.Records()...))
		if s.Version() != version || s.Segs() < 2 || len(d.Names()) != s.Segs()+1 {
			t.Errorf("version %d, %d segments, files %v", s.Version(), s.Segs(), d.Names())
		}
		for _, low := range []int{version - 1, 0, 4} {
			want(t, s.Swap(low, st), api.ErrVersion)
		}
	}
	want(t, s.Swap(0, nil), api.ErrArg, st.Apply(del(1)), api.OK)
	is(t, "State", s.State().View(), of(t, 3, gen(3, 4, 5), put(1), put(2)))
	d.Crash(nil)
	is(t, "opened again", open(t, d).State().View(), s.State().View())
}

// P15.3: a segment is made of two rows and Synced, a manifest written in four operations, the old segment removed
func TestSwapWhereTheDiskFails(t *testing.T) {
	for n := 1; n <= 8; n++ {
		d, s := create(t, 1, plenty)
		want(t, s.Write(put(1)), api.OK, s.Sync(), api.OK, s.Write(put(2)), api.OK)
		st := state.New()
		want(t, st.Apply(put(3)), api.OK)
		d.Fail(n)
		e := s.Swap(3, st)
		counts, sure := n >= 7, n >= 8
		version, now, last := 1, of(t, 1, put(1), put(2)), of(t, 1, put(1))
		if counts {
			version, now = 3, of(t, 3, put(3))
		}
		if sure {
			last = now
		}
		if (e == api.OK) != sure || (!sure && e != api.ErrFault) || s.Version() != version {
			t.Errorf("at operation %d: %d, version %d", n, e, s.Version())
		}
		is(t, "State", s.State().View(), now)
		is(t, "Sure", s.Sure(), last)
		d.Fail(0)
		want(t, s.Sync(), api.OK)
		is(t, "Sure, behind Sync", s.Sure(), now)
		d.Crash(nil)
		is(t, "opened again", open(t, d).State().View(), now)
	}
}

// R3
func TestNil(t *testing.T) {
	var s *store.Store
	want(t, s.Write(put(1)), api.ErrArg, s.Sync(), api.ErrArg, s.Swap(3, state.New()), api.ErrArg, s.Swap(9, nil), api.ErrArg)
	is(t, "Sure", s.Sure(), api.State{})
	if s.State() != nil || s.Version() != 0 || s.Size() != 0 || s.Segs() != 0 {
		t.Error("a nil store has something")
	}
}
