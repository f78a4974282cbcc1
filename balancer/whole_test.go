package balancer_test

import (
	"bytes"
	"math/rand"
	"testing"

	"goit/api"
	"goit/balancer"
	"goit/state"
)

// someStep is a step of packets, time or backends.
func someStep(r *rand.Rand) api.Step {
	switch r.Intn(12) {
	case 0:
		return gen([][]int{{1}, {1, 2}, {2, 3}, {1, 2, 3, 4}, {}, {5}}[r.Intn(6)]...)
	case 1:
		return drain(1+r.Intn(5), r.Intn(12))
	case 2:
		return clear(1 + r.Intn(5))
	case 3, 4:
		return tick(r.Intn(9))
	case 5:
		return last(r.Intn(12))
	}
	return packet(r.Intn(12))
}

func sameOut(a, b api.Out) bool {
	return a.Verdict == b.Verdict && a.Reason == b.Reason && a.Backend == b.Backend && bytes.Equal(a.Packet, b.Packet)
}

// P25.4
func TestWhatItDoesHangsOnNoDiskAndNoHandOff(t *testing.T) {
	r := rand.New(rand.NewSource(1))
	for run := range 60 {
		a := made(t, config)
		others := []*balancer.Balancer{made(t, config), made(t, with(func(c *api.Config) { c.Quota, c.Segment, c.Version = 150, 16, 1 })), made(t, with(func(c *api.Config) { c.Version = 2 }))}
		for i := range 150 {
			s := someStep(r)
			out, e := a.Do(s)
			for j, b := range others {
				if o, e2 := b.Do(s); e2 != e || !sameOut(o, out) {
					t.Fatalf("run %d, step %d: balancer %d: %v, %d, not %v, %d", run, i, j, o, e2, out, e)
				}
				if !state.Same(a.State(), b.State()) || a.Now() != b.Now() {
					t.Fatalf("run %d, step %d: balancer %d: %v, not %v", run, i, j, b.State(), a.State())
				}
			}
			switch r.Intn(4) {
			case 0:
				ok(t, others[0], hand(-1, 0))
			case 1:
				ok(t, others[2], []api.Step{sync, shorten, upgrade(3)}[r.Intn(3)])
			}
			if len(a.State().Flows) > config.Flows {
				t.Fatalf("%d flows", len(a.State().Flows))
			}
		}
	}
}

// P25.4: without faults what the process has, as it was when it was written, is what is stored
func TestAllIsStored(t *testing.T) {
	r := rand.New(rand.NewSource(2))
	for run := range 60 {
		b := made(t, with(func(c *api.Config) { c.Version, c.Segment = 3, 16+r.Intn(200) }))
		for range 150 {
			b.Do(someStep(r))
			if r.Intn(20) == 0 {
				ok(t, b, []api.Step{sync, shorten, hand(-1, 0)}[r.Intn(3)])
			}
			process, stored := b.State(), b.Stored()
			for i := range process.Flows {
				if i < len(stored.Flows) && stored.Flows[i].Seen <= process.Flows[i].Seen {
					process.Flows[i].Seen = stored.Flows[i].Seen
				}
			}
			if b.Sick() || b.Lost() != 0 || !state.Same(process, stored) {
				t.Fatalf("run %d: %v is stored, not %v", run, stored, process)
			}
		}
		ok(t, b, sync)
		if !state.Same(b.Sure(), b.Stored()) {
			t.Fatalf("run %d: %v is sure, not %v", run, b.Sure(), b.Stored())
		}
	}
}

// behindACrash is what a process has of what was stored.
func behindACrash(v api.State, now int64) api.State {
	for i := range v.Flows {
		v.Flows[i].Seen = now
	}
	return v
}

// P25.5, P25.6
func TestCrashes(t *testing.T) {
	r := rand.New(rand.NewSource(3))
	for run := range 200 {
		c := with(func(c *api.Config) { c.Version, c.Segment, c.Flows = 1+run%3, 16+r.Intn(200), r.Intn(9) })
		b := made(t, c)
		for range 4 {
			since := []api.State{b.Sure()} // what was stored, since all of it was sure
			for range r.Intn(30) {
				s := someStep(r)
				switch r.Intn(12) {
				case 0:
					s = sync
				case 1:
					s = shorten
				case 2:
					s = upgrade(b.Version())
				case 3:
					s = fault(1 + r.Intn(6))
				}
				if s.Kind == api.STick || s.Kind == api.SGen {
					s = oneRecord(b, s)
				}
				_, e := b.Do(s)
				if e == api.OK && (s.Kind == api.SSync || s.Kind == api.SCompact || s.Kind == api.SUpgrade) {
					since = nil
				}
				since = append(since, b.Stored())
				if len(b.State().Flows) > c.Flows {
					t.Fatalf("run %d: %d flows", run, len(b.State().Flows))
				}
			}
			picks := make([]byte, r.Intn(8))
			r.Read(picks)
			ok(t, b, crash(picks...))
			found := false
			for _, v := range since {
				found = found || state.Same(v, b.Stored())
			}
			if !found {
				t.Fatalf("run %d: behind Crash(%x) %v, none of %v", run, picks, b.Stored(), since)
			}
			if !state.Same(b.State(), behindACrash(b.Stored(), b.Now())) || !state.Same(b.Sure(), b.Stored()) {
				t.Fatalf("run %d: %v of %v", run, b.State(), b.Stored())
			}
		}
	}
}

// oneRecord is a step that writes no more than one record: the others would hide what is stored between them.
func oneRecord(b *balancer.Balancer, s api.Step) api.Step {
	if s.Kind == api.STick {
		return tick(0)
	}
	if len(b.State().Drains) > 0 {
		return clear(b.State().Drains[0].Backend)
	}
	return s
}
