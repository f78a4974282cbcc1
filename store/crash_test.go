package store_test

import (
	"math/rand"
	"testing"

	"goit/api"
	"goit/state"
)

// among tells whether v is one of the states.
func among(v api.State, l []api.State) bool {
	for _, x := range l {
		if state.Same(v, x) {
			return true
		}
	}
	return false
}

// P15.4
func TestCrashes(t *testing.T) {
	r := rand.New(rand.NewSource(1))
	for run := range 300 {
		version := 1 + run%3
		d, s := create(t, version, 40+r.Intn(100))
		for range 4 {
			since := []api.State{s.Sure()} // the states since the last time when all was sure
			for range r.Intn(15) {
				if r.Intn(5) == 0 {
					d.Fail(1 + r.Intn(8))
				}
				x := []api.Record{put(r.Intn(6)), del(r.Intn(6)), gen(1+r.Intn(9), 1), {Kind: api.RDrain, Backend: r.Intn(3), Until: 5}}[r.Intn(4)]
				sure := false
				switch r.Intn(8) {
				case 0:
					sure = s.Sync() == api.OK
				case 1:
					sure = s.Swap(version, s.State()) == api.OK
				default:
					s.Write(x)
				}
				if sure {
					since = nil
				}
				since = append(since, s.State().View())
			}
			if !state.Same(since[0], s.Sure()) {
				t.Fatalf("run %d: Sure is none of the states that were", run)
			}
			picks := make([]byte, r.Intn(8))
			r.Read(picks)
			d.Crash(picks)
			s = open(t, d)
			if !among(s.State().View(), since) {
				t.Fatalf("run %d: behind Crash(%x) %v, which is none of %v", run, picks, s.State().View(), since)
			}
			is(t, "Sure", s.Sure(), s.State().View())
		}
	}
}
