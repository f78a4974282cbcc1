package choice_test

import (
	"slices"
	"testing"

	"goit/api"
	"goit/choice"
	"goit/gens"
	"goit/maglev"
	"goit/tuple"
)

func backends(ids ...int) []api.Backend {
	var l []api.Backend
	for _, id := range ids {
		l = append(l, api.Backend{Id: id, Addr: uint32(100 + id), Weight: 1 + id%10})
	}
	return l
}

func tup(n int) api.Tuple {
	return api.Tuple{Src: uint32(n), Dst: 2, Proto: api.TCP, Sport: 3, Dport: 4}
}

// outs is Ids that are out.
type outs []int

func (o outs) has(id int) bool { return slices.Contains(o, id) }

// isSet tells whether a chooser is set to l, out: in its table, and all that it picks.
func isSet(t *testing.T, c *choice.Chooser, slots int, l []api.Backend, out outs) {
	t.Helper()
	table := maglev.Table(gens.Without(l, out.has), slots)
	if got := c.Table(); !slices.Equal(got, table) {
		t.Errorf("table %v, not %v", got, table)
	}
	for _, b := range l {
		if got, ok := c.Find(b.Id); !ok || got != b {
			t.Errorf("Find(%d): %v, %v", b.Id, got, ok)
		}
	}
	for n := range 200 {
		want, there := gens.Find(l, table[int(tuple.Hash(tup(n)))%slots])
		for range 2 {
			if got, ok := c.Pick(tup(n)); got != want || ok != there {
				t.Errorf("Pick(%d): %v, %v, not %v", n, got, ok, want)
			}
		}
	}
}

// P19.1
func TestNew(t *testing.T) {
	for _, slots := range []int{-1, 0, 1, 2, 4, 252, 257} {
		if choice.New(slots) != nil {
			t.Errorf("New(%d)", slots)
		}
	}
	for _, slots := range []int{3, 13, 251} {
		c := choice.New(slots)
		isSet(t, c, slots, nil, nil)
		if got, ok := c.Find(-1); ok || got != (api.Backend{}) || c.Made() != 0 {
			t.Errorf("New(%d): %v, %d tables", slots, got, c.Made())
		}
	}
}

// P19.1, P19.2
func TestSet(t *testing.T) {
	c := choice.New(13)
	for i, x := range []struct {
		l   []api.Backend
		out outs
	}{{backends(5), nil}, {backends(1, 2, 5), nil}, {backends(1, 2, 5), outs{2, 9}}, {backends(1, 2, 5), outs{1, 2, 5}}, {backends(3), nil}, {nil, nil}} {
		if e := c.Set(x.l, x.out.has); e != api.OK || c.Made() != i+1 {
			t.Errorf("Set(%v): %d, %d tables", x.l, e, c.Made())
		}
		isSet(t, c, 13, x.l, x.out)
	}
	if e := c.Set(backends(1, 2), nil); e != api.OK {
		t.Errorf("nil out: %d", e)
	}
	isSet(t, c, 13, backends(1, 2), nil)
	if _, ok := c.Find(5); ok {
		t.Error("one of an earlier set is there")
	}
}

// P19.1
func TestSetRefuses(t *testing.T) {
	c := choice.New(13)
	good := backends(1, 2)
	if e := c.Set(good, outs{2}.has); e != api.OK {
		t.Fatalf("Set: %d", e)
	}
	many := make([]int, 17)
	for i := range many {
		many[i] = i
	}
	for _, l := range [][]api.Backend{backends(2, 1), backends(1, 1), backends(-1), backends(65536), backends(many...), {{Id: 1}}, {{Id: 1, Weight: 11}}} {
		if e := c.Set(l, nil); e != api.ErrArg || c.Made() != 1 {
			t.Errorf("Set(%v): %d, %d tables", l, e, c.Made())
		}
		isSet(t, c, 13, good, outs{2})
	}
}

// P19.1
func TestPickRefuses(t *testing.T) {
	c := choice.New(13)
	c.Set(backends(1), nil)
	if b, ok := c.Pick(tup(7)); !ok || b != backends(1)[0] {
		t.Errorf("of one: %v, %v", b, ok)
	}
	for _, k := range []api.Tuple{{}, {Proto: 1}, {Proto: api.TCP, Sport: -1}, {Proto: api.UDP, Dport: 65536}} {
		if b, ok := c.Pick(k); ok || b != (api.Backend{}) {
			t.Errorf("Pick(%v): %v, %v", k, b, ok)
		}
	}
}

// R2
func TestChoosersKeepToThemselves(t *testing.T) {
	c, l := choice.New(13), backends(1, 2)
	c.Set(l, nil)
	l[0].Addr, l[1].Id = 9, 9
	c.Table()[0] = 99
	isSet(t, c, 13, backends(1, 2), nil)
}

// R3
func TestNil(t *testing.T) {
	var c *choice.Chooser
	b, ok := c.Pick(tup(1))
	if b != (api.Backend{}) || ok || c.Set(backends(1), nil) != api.ErrArg || len(c.Table()) != 0 || c.Made() != 0 {
		t.Error("a nil chooser has something")
	}
	if b, ok := c.Find(1); b != (api.Backend{}) || ok {
		t.Error("a nil chooser finds something")
	}
}
