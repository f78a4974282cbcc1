package migrate_test

import (
	"slices"
	"testing"

	"goit/api"
	"goit/frame"
	"goit/migrate"
	"goit/record"
)

var (
	tup = api.Tuple{Src: 1, Dst: 2, Proto: api.UDP, Sport: 3, Dport: 4}
	put = api.Record{Kind: api.RPut, Flow: api.Flow{Tuple: tup, Backend: 5, Gen: 7, Seen: 9}}
	gen = api.Record{Kind: api.RGen, Gen: 7, Backends: []api.Backend{{Id: 1, Addr: 2, Weight: 3}, {Id: 2, Addr: 3, Weight: 1}}}
	all = []api.Record{put, gen, {Kind: api.RDel, Flow: api.Flow{Tuple: tup}}, {Kind: api.RDrain, Backend: 5, Until: 6}, {Kind: api.RClear, Backend: 5}, {Kind: api.REnd, Count: 8}}
)

// after is a record as a way of steps leaves it.
func after(r api.Record, from, to int) api.Record {
	r.Backends = slices.Clone(r.Backends)
	if r.Kind == api.RPut {
		switch {
		case from == 1 && to == 1:
			r.Flow.Gen = 0
		case from == 1:
			r.Flow.Gen = 1
		}
		if from < 3 {
			r.Flow.Seen = 0
		}
	}
	for i := range r.Backends {
		if from == 1 {
			r.Backends[i].Weight = 1
		}
	}
	return r
}

var noWays = [][2]int{{0, 1}, {1, 0}, {0, 0}, {1, 4}, {4, 4}, {4, 3}, {2, 1}, {3, 1}, {3, 2}, {-1, 2}, {-1 << 63, 1<<63 - 1}}

// P9.1
func TestSteps(t *testing.T) {
	for from := 1; from <= 3; from++ {
		for to := from; to <= 3; to++ {
			if got := migrate.Steps(from, to); got != to-from {
				t.Errorf("Steps(%d, %d) = %d", from, to, got)
			}
		}
	}
	for _, way := range noWays {
		if got := migrate.Steps(way[0], way[1]); got != 0 {
			t.Errorf("Steps(%v) = %d", way, got)
		}
	}
}

// P9.1
func TestRecord(t *testing.T) {
	for _, r := range all {
		for from := 1; from <= 3; from++ {
			for to := from; to <= 3; to++ {
				got, e := migrate.Record(r, from, to)
				if e != api.OK || !record.Same(got, after(r, from, to)) || (r.Kind != api.RPut && got.Flow != r.Flow) {
					t.Errorf("kind %d from %d to %d: %d, %v", r.Kind, from, to, e, got)
				}
			}
		}
	}
	full := api.Record{Kind: api.RClear, Flow: put.Flow, Gen: 4, Backends: gen.Backends, Backend: 5, Until: 6, Count: 7}
	if got, e := migrate.Record(full, 3, 3); e != api.OK || got.Flow != (api.Flow{}) || got.Gen != 0 || len(got.Backends) != 0 || got.Until != 0 || got.Count != 0 || got.Backend != 5 {
		t.Errorf("what a kind has not: %d, %v", e, got)
	}
}

// P9.1
func TestRecordRefuses(t *testing.T) {
	bad := put
	bad.Flow.Backend = -1
	for _, r := range []api.Record{put, bad} {
		for _, way := range noWays {
			if got, e := migrate.Record(r, way[0], way[1]); e != api.ErrVersion || got.Kind != 0 || got.Flow != (api.Flow{}) {
				t.Errorf("%v: %d, %v", way, e, got)
			}
		}
	}
	late := put
	late.Flow.Seen = -1 // format 1 would not keep it: it may not be all the same
	for _, r := range []api.Record{bad, late, {}, {Kind: 7}} {
		if got, e := migrate.Record(r, 1, 3); e != api.ErrArg || got.Kind != 0 {
			t.Errorf("%v: %d, %v", r, e, got)
		}
	}
}

// P9.1
func TestFrame(t *testing.T) {
	for _, r := range all {
		for from := 1; from <= 3; from++ {
			f, _ := record.Encode(r, from)
			for to := from; to <= 3; to++ {
				want, _ := record.Encode(after(r, from, to), to)
				if got, e := migrate.Frame(f, to); e != api.OK || !frame.Same(got, want) {
					t.Errorf("kind %d from %d to %d: %d, %v", r.Kind, from, to, e, got)
				}
			}
			for _, to := range []int{0, from - 1, 4, -1} {
				if got, e := migrate.Frame(f, to); e != api.ErrVersion || !frame.Same(got, api.Frame{}) {
					t.Errorf("kind %d from %d to %d: %d", r.Kind, from, to, e)
				}
			}
		}
	}
	for _, x := range []struct {
		f    api.Frame
		to   int
		want api.Errno
	}{{api.Frame{Kind: api.RClear, Version: 0, Body: []byte{0, 1}}, 3, api.ErrVersion}, {api.Frame{Kind: api.RClear, Version: 4, Body: []byte{0, 1}}, 4, api.ErrVersion}, {api.Frame{Kind: api.RClear, Version: 2, Body: []byte{1}}, 1, api.ErrForm}, {api.Frame{Kind: 9, Version: 2}, 3, api.ErrForm}} {
		if got, e := migrate.Frame(x.f, x.to); e != x.want || !frame.Same(got, api.Frame{}) {
			t.Errorf("%v to %d: %d", x.f, x.to, e)
		}
	}
}

// sameState holds all of two states against each other.
func sameState(a, b api.State) bool {
	return a.Gen == b.Gen && slices.Equal(a.Backends, b.Backends) && slices.Equal(a.Drains, b.Drains) && slices.Equal(a.Flows, b.Flows)
}

// P9.1
func TestState(t *testing.T) {
	other := put.Flow
	other.Tuple.Proto, other.Backend, other.Gen, other.Seen = 1, -5, -6, -7 // whether it may be is not asked
	s := api.State{Gen: 7, Backends: gen.Backends, Drains: []api.Drain{{Backend: 9, Until: -4}, {Backend: 1, Until: 2}}, Flows: []api.Flow{put.Flow, other}}
	for from := 1; from <= 3; from++ {
		for to := from; to <= 3; to++ {
			want := api.State{Gen: 7, Backends: after(gen, from, to).Backends, Drains: s.Drains}
			for _, f := range s.Flows {
				want.Flows = append(want.Flows, after(api.Record{Kind: api.RPut, Flow: f}, from, to).Flow)
			}
			got, e := migrate.State(s, from, to)
			if e != api.OK || !sameState(got, want) {
				t.Errorf("from %d to %d: %d, %v", from, to, e, got)
			}
			got.Backends[0].Id, got.Drains[0].Until, got.Flows[0].Backend = 99, 99, 99
		}
	}
	if s.Backends[0].Id != 1 || s.Backends[0].Weight != 3 || s.Drains[0].Until != -4 || s.Flows[0] != put.Flow {
		t.Error("State shares memory")
	}
	for _, way := range noWays {
		if got, e := migrate.State(s, way[0], way[1]); e != api.ErrVersion || !sameState(got, api.State{}) {
			t.Errorf("%v: %d, %v", way, e, got)
		}
	}
	if got, e := migrate.State(api.State{}, 1, 3); e != api.OK || !sameState(got, api.State{}) {
		t.Errorf("of nothing: %d, %v", e, got)
	}
}

// P9.2
func TestInTwoParts(t *testing.T) {
	for _, r := range all {
		for from := 1; from <= 3; from++ {
			for mid := from; mid <= 3; mid++ {
				for to := mid; to <= 3; to++ {
					first, _ := migrate.Record(r, from, mid)
					second, _ := migrate.Record(first, mid, to)
					if once, _ := migrate.Record(r, from, to); !record.Same(second, once) {
						t.Errorf("kind %d from %d by %d to %d: %v, not %v", r.Kind, from, mid, to, second, once)
					}
					if second.Flow.Tuple != r.Flow.Tuple || second.Flow.Backend != r.Flow.Backend || second.Kind != r.Kind {
						t.Errorf("kind %d: %v", r.Kind, second)
					}
				}
			}
			if same, _ := migrate.Record(r, from, from); !record.Same(same, record.In(r, from)) {
				t.Errorf("kind %d, to its own format %d: %v", r.Kind, from, same)
			}
		}
	}
}
