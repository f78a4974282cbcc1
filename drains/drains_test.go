package drains_test

import (
	"math"
	"slices"
	"testing"

	"goit/api"
	"goit/drains"
)

func put(t *testing.T, s *drains.Set, backend int, until int64, want api.Errno) {
	t.Helper()
	if e := s.Put(backend, until); e != want {
		t.Errorf("Put(%d, %d): %d, not %d", backend, until, e, want)
	}
}

func isDue(t *testing.T, s *drains.Set, now int64, want ...int) {
	t.Helper()
	if got := s.Due(now); !slices.Equal(got, want) {
		t.Errorf("Due(%d): %v, not %v", now, got, want)
	}
}

// P12.1
func TestPut(t *testing.T) {
	s := drains.New()
	if s.Len() != 0 || len(s.All()) != 0 {
		t.Error("a new one has something")
	}
	for _, x := range []api.Drain{{Backend: -1, Until: 5}, {Backend: 65536, Until: 5}, {Backend: 1, Until: -1}, {Backend: 1, Until: api.MaxTime + 1}, {Backend: 256 * 256 * 256, Until: 5}} {
		put(t, s, x.Backend, x.Until, api.ErrArg)
		if s.Is(x.Backend) || s.Len() != 0 {
			t.Errorf("%v drains", x)
		}
	}
	put(t, s, 65535, 0, api.OK)
	put(t, s, 0, api.MaxTime, api.OK)
	put(t, s, 7, 5, api.OK)
	put(t, s, 7, 6, api.OK)
	put(t, s, 7, -1, api.ErrArg)
	if until, ok := s.Until(7); until != 6 || !ok || !s.Is(7) || s.Is(8) || s.Len() != 3 {
		t.Errorf("till %d, %v, %d drain", until, ok, s.Len())
	}
	if until, ok := s.Until(8); until != 0 || ok {
		t.Errorf("till %d, %v", until, ok)
	}
	want := []api.Drain{{Backend: 0, Until: api.MaxTime}, {Backend: 7, Until: 6}, {Backend: 65535, Until: 0}}
	s.All()[0].Until = 9
	if got := s.All(); !slices.Equal(got, want) {
		t.Errorf("%v", got)
	}
}

// P12.1
func TestFull(t *testing.T) {
	s := drains.New()
	for i := range api.MaxDue {
		put(t, s, 3*i, int64(i), api.OK)
	}
	put(t, s, 1, 5, api.ErrFull)
	if s.Is(1) || s.Len() != api.MaxDue {
		t.Errorf("%d drain", s.Len())
	}
	put(t, s, 3, 5, api.OK)
	put(t, s, -1, 5, api.ErrArg)
	if !s.Clear(6) {
		t.Error("Clear")
	}
	put(t, s, 1, 5, api.OK)
}

// P12.1
func TestClear(t *testing.T) {
	s := drains.New()
	put(t, s, 1, 5, api.OK)
	put(t, s, 2, 5, api.OK)
	if s.Clear(3) || !s.Clear(1) || s.Clear(1) || s.Is(1) || s.Len() != 1 || s.Clear(-1) || s.Clear(65536+2) {
		t.Errorf("%d drain", s.Len())
	}
	isDue(t, s, 9, 2)
}

// P12.1, P12.2
func TestDue(t *testing.T) {
	s := drains.New()
	for backend, until := range map[int]int64{1: 10, 2: 9, 300: 9, 256: 9, 255: 9, 4: 0, 5: 12} {
		put(t, s, backend, until, api.OK)
	}
	isDue(t, s, -1)
	isDue(t, s, math.MinInt64)
	isDue(t, s, 8, 4)
	isDue(t, s, 11, 2, 255, 256, 300, 1)
	isDue(t, s, 11)
	if s.Is(2) || s.Len() != 1 || !s.Is(5) {
		t.Errorf("%d drain", s.Len())
	}
	put(t, s, 2, 13, api.OK)
	isDue(t, s, math.MaxInt64, 5, 2)
}

// R3
func TestNil(t *testing.T) {
	var s *drains.Set
	put(t, s, 1, 1, api.ErrArg)
	until, ok := s.Until(1)
	if until != 0 || ok || s.Is(1) || s.Clear(1) || len(s.Due(9)) != 0 || len(s.All()) != 0 || s.Len() != 0 {
		t.Error("a nil set has something")
	}
}
