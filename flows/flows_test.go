package flows_test

import (
	"math"
	"math/rand"
	"slices"
	"testing"

	"goit/api"
	"goit/flows"
	"goit/tuple"
)

// tup is one of many tuples: a lesser number stands ahead.
func tup(n int) api.Tuple {
	return api.Tuple{Src: uint32(n) << 20, Dst: 2, Proto: api.TCP, Sport: 3, Dport: 4}
}

func flow(n, backend int, seen int64) api.Flow {
	return api.Flow{Tuple: tup(n), Backend: backend, Gen: 1, Seen: seen}
}

func put(t *testing.T, x *flows.Table, f api.Flow, fresh bool, want api.Errno) {
	t.Helper()
	if got, e := x.Put(f); e != want || got != fresh {
		t.Errorf("Put(%v): %v, %d, not %v, %d", f, got, e, fresh, want)
	}
}

func are(t *testing.T, got []api.Flow, want ...api.Flow) {
	t.Helper()
	if !slices.Equal(got, want) {
		t.Errorf("%v, not %v", got, want)
	}
}

// P11.1
func TestNew(t *testing.T) {
	for most, want := range map[int]int{-1: 0, 0: 0, 7: 7, 256: 256, 257: 256, math.MaxInt: 256, math.MinInt: 0} {
		if x := flows.New(most, 5); x.Most() != want || x.Len() != 0 || len(x.All()) != 0 {
			t.Errorf("New(%d): most %d", most, x.Most())
		}
	}
	for idle, want := range map[int64]int64{-5: 1, 0: 1, 1: 1, 9: 9, api.MaxTime: api.MaxTime, math.MaxInt64: api.MaxTime, math.MinInt64: 1} {
		x := flows.New(1, idle)
		put(t, x, flow(1, 2, 3), true, api.OK)
		are(t, x.Idle(3+want-1))
		are(t, x.Idle(3+want), flow(1, 2, 3))
	}
}

// P11.1, P11.3
func TestPut(t *testing.T) {
	x := flows.New(2, 5)
	put(t, x, flow(1, 2, 3), true, api.OK)
	put(t, x, flow(1, 9, 8), false, api.OK)
	put(t, x, flow(2, 2, 3), true, api.OK)
	put(t, x, flow(3, 2, 3), false, api.ErrFull)
	put(t, x, flow(2, 7, 4), false, api.OK)
	if x.Len() != 2 {
		t.Errorf("%d flows", x.Len())
	}
	are(t, x.All(), flow(1, 9, 8), flow(2, 7, 4))
	none := flows.New(0, 5)
	put(t, none, flow(1, 2, 3), false, api.ErrFull)
}

// P11.1
func TestPutRefuses(t *testing.T) {
	changes := map[bool][]func(f *api.Flow){
		true: {func(f *api.Flow) { f.Backend = 0 }, func(f *api.Flow) { f.Backend = 65535 }, func(f *api.Flow) { f.Gen = 0 }, func(f *api.Flow) { f.Gen = 1000000 }, func(f *api.Flow) { f.Seen = 0 }, func(f *api.Flow) { f.Seen = api.MaxTime }},
		false: {func(f *api.Flow) { f.Backend = -1 }, func(f *api.Flow) { f.Backend = 65536 }, func(f *api.Flow) { f.Gen = -1 }, func(f *api.Flow) { f.Gen = 1000001 },
			func(f *api.Flow) { f.Seen = -1 }, func(f *api.Flow) { f.Seen = api.MaxTime + 1 }, func(f *api.Flow) { f.Tuple.Proto = 1 }, func(f *api.Flow) { f.Tuple.Sport = 65536 }, func(f *api.Flow) { f.Tuple = api.Tuple{} }},
	}
	for may, l := range changes {
		for i, change := range l {
			x, f := flows.New(1, 5), flow(1, 2, 3)
			change(&f)
			want := api.OK
			if !may {
				want = api.ErrArg
			}
			put(t, x, f, may, want)
			if got, ok := x.Get(f.Tuple); ok != may || (may && got != f) || (!may && got != (api.Flow{})) {
				t.Errorf("change %d: %v, %v", i, got, ok)
			}
			if !may { // what may not be is told ahead of what is full
				put(t, flows.New(0, 5), f, false, api.ErrArg)
			}
		}
	}
}

// P11.1
func TestTouch(t *testing.T) {
	x := flows.New(3, 5)
	put(t, x, flow(1, 2, 3), true, api.OK)
	for _, step := range []struct{ now, seen int64 }{{7, 7}, {6, 7}, {-1, 7}, {math.MinInt64, 7}, {7, 7}, {api.MaxTime + 1, 7}, {math.MaxInt64, 7}, {8, 8}, {api.MaxTime, api.MaxTime}} {
		if !x.Touch(tup(1), step.now) {
			t.Errorf("Touch at %d: it is not there", step.now)
		}
		are(t, x.All(), flow(1, 2, step.seen))
	}
	if x.Touch(tup(2), 9) || x.Len() != 1 {
		t.Error("a flow that was not there is touched")
	}
}

// P11.1
func TestDrop(t *testing.T) {
	x := flows.New(2, 5)
	put(t, x, flow(1, 2, 3), true, api.OK)
	put(t, x, flow(2, 2, 3), true, api.OK)
	if !x.Drop(tup(1)) || x.Drop(tup(1)) || x.Drop(tup(3)) || x.Len() != 1 {
		t.Errorf("%d flows", x.Len())
	}
	if f, ok := x.Get(tup(1)); ok || f != (api.Flow{}) || x.Touch(tup(1), 9) {
		t.Error("it is there yet")
	}
	put(t, x, flow(3, 4, 5), true, api.OK)
	are(t, x.Idle(100), flow(2, 2, 3), flow(3, 4, 5))
}

// P11.2
func TestIdle(t *testing.T) {
	x := flows.New(9, 5)
	for _, f := range []api.Flow{flow(3, 1, 0), flow(1, 1, 4), flow(2, 1, 0), flow(5, 1, 1), flow(4, 1, 4)} {
		put(t, x, f, true, api.OK)
	}
	for _, now := range []int64{math.MinInt64, -1, 0, 4} {
		are(t, x.Idle(now))
	}
	are(t, x.Idle(5), flow(2, 1, 0), flow(3, 1, 0))
	are(t, x.Idle(5))
	x.Touch(tup(5), 4)
	are(t, x.Idle(8))
	are(t, x.Idle(math.MaxInt64), flow(1, 1, 4), flow(4, 1, 4), flow(5, 1, 4))
	if x.Len() != 0 || len(x.All()) != 0 {
		t.Errorf("%d flows", x.Len())
	}
}

// P11.2
func TestOfAndAll(t *testing.T) {
	x := flows.New(9, 5)
	for _, f := range []api.Flow{flow(3, 1, 0), flow(1, 2, 4), flow(2, 1, 0), flow(4, 1, 4)} {
		put(t, x, f, true, api.OK)
	}
	are(t, x.All(), flow(1, 2, 4), flow(2, 1, 0), flow(3, 1, 0), flow(4, 1, 4))
	are(t, x.Of(1), flow(2, 1, 0), flow(3, 1, 0), flow(4, 1, 4))
	are(t, x.Of(2), flow(1, 2, 4))
	are(t, x.Of(3))
	x.All()[0].Backend = 99
	x.Of(2)[0].Backend = 99
	are(t, x.Of(2), flow(1, 2, 4))
}

// P11.2
func TestSame(t *testing.T) {
	a := flow(1, 2, 3)
	for i, change := range []func(f *api.Flow){func(f *api.Flow) { f.Tuple.Dport++ }, func(f *api.Flow) { f.Backend++ }, func(f *api.Flow) { f.Gen++ }, func(f *api.Flow) { f.Seen++ }} {
		b := a
		change(&b)
		if flows.Same(a, b) || flows.Same(b, a) || !flows.Same(b, b) {
			t.Errorf("change %d", i)
		}
	}
}

// P11.3
func TestTableIsItsModel(t *testing.T) {
	r := rand.New(rand.NewSource(1))
	for range 100 {
		most, idle := r.Intn(6), int64(1+r.Intn(6))
		x, model := flows.New(most, idle), map[api.Tuple]api.Flow{}
		for now := int64(0); now < 60; now++ {
			f := flow(r.Intn(8), r.Intn(3), now)
			was, had := model[f.Tuple]
			switch r.Intn(4) {
			case 0:
				x.Drop(f.Tuple)
				delete(model, f.Tuple)
			case 1:
				if x.Touch(f.Tuple, now) != had {
					t.Fatal("Touch")
				}
				if was.Seen = now; had {
					model[f.Tuple] = was
				}
			default:
				if _, e := x.Put(f); (e == api.OK) != (had || len(model) < most) {
					t.Fatalf("Put: %d", e)
				} else if e == api.OK {
					model[f.Tuple] = f
				}
			}
			for _, f := range x.Idle(now) {
				if model[f.Tuple] != f || f.Seen+idle > now {
					t.Fatalf("%v is idle at %d", f, now)
				}
				delete(model, f.Tuple)
			}
			var want []api.Flow
			for _, f := range model {
				if f.Seen+idle <= now {
					t.Fatalf("%v is not idle at %d", f, now)
				}
				want = append(want, f)
			}
			slices.SortFunc(want, func(a, b api.Flow) int {
				if tuple.Less(a.Tuple, b.Tuple) {
					return -1
				}
				return 1
			})
			are(t, x.All(), want...)
			if x.Len() > most {
				t.Fatalf("%d flows", x.Len())
			}
		}
	}
}

// R3
func TestNil(t *testing.T) {
	var x *flows.Table
	put(t, x, flow(1, 2, 3), false, api.ErrArg)
	f, ok := x.Get(tup(1))
	if f != (api.Flow{}) || ok || x.Touch(tup(1), 2) || x.Drop(tup(1)) || len(x.Idle(9)) != 0 || len(x.Of(1)) != 0 || len(x.All()) != 0 || x.Len() != 0 || x.Most() != 0 {
		t.Error("a nil table has something")
	}
}
