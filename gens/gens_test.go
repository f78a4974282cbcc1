package gens_test

import (
	"math"
	"math/rand"
	"slices"
	"testing"

	"goit/api"
	"goit/gens"
)

// ids is backends of these Ids, each with a weight.
func ids(l ...int) []api.Backend {
	var out []api.Backend
	for i, id := range l {
		out = append(out, api.Backend{Id: id, Addr: uint32(i), Weight: 1 + i%10})
	}
	return out
}

func upTo(n int) []int {
	l := make([]int, n)
	for i := range l {
		l[i] = i
	}
	return l
}

func are(t *testing.T, got []api.Backend, want ...api.Backend) {
	t.Helper()
	if !slices.Equal(got, want) {
		t.Errorf("%v, not %v", got, want)
	}
}

// P13.1
func TestMay(t *testing.T) {
	for _, l := range [][]api.Backend{nil, {}, ids(0), ids(65535), ids(0, 65535), ids(upTo(16)...), {{Id: 1, Weight: 10}}} {
		if !gens.May(l) {
			t.Errorf("%v may not be", l)
		}
	}
	for _, l := range [][]api.Backend{ids(-1), ids(65536), ids(1, 1), ids(2, 1), ids(1, 3, 2), ids(upTo(17)...), {{Id: 1}}, {{Id: 1, Weight: 11}}, {{Id: 1, Weight: -1}}, {{Id: 1, Weight: 1}, {Id: 2}}} {
		if gens.May(l) {
			t.Errorf("%v may be", l)
		}
	}
}

// P13.1
func TestSort(t *testing.T) {
	b := ids(5, 3, 5, -1, 3, 70000)
	b[2].Weight = 99 // whether they may be is not asked
	was := slices.Clone(b)
	are(t, gens.Sort(b), b[3], b[4], b[2], b[5])
	are(t, b, was...)
	are(t, gens.Sort(nil))
	are(t, gens.Sort(b[:1]), b[0])
	many := ids(append([]int{100}, upTo(20)...)...)
	are(t, gens.Sort(many), append(slices.Clone(many[1:16]), many[0])...) // none of the rest
	again := append(ids(upTo(16)...), api.Backend{Id: 3, Addr: 77})
	are(t, gens.Sort(again), again[:16]...)
	got := gens.Sort(again)
	got[0].Id = 99
	if again[0].Id != 0 {
		t.Error("Sort shares memory")
	}
}

// P13.1
func TestFind(t *testing.T) {
	l := ids(5, 3, 5)
	if b, ok := gens.Find(l, 5); !ok || b != l[0] {
		t.Errorf("%v, %v", b, ok)
	}
	if b, ok := gens.Find(l, 3); !ok || b != l[1] {
		t.Errorf("%v, %v", b, ok)
	}
	for _, id := range []int{4, 0, -1} {
		if b, ok := gens.Find(l, id); ok || b != (api.Backend{}) {
			t.Errorf("Find(%d): %v, %v", id, b, ok)
		}
	}
}

// outs is Ids that are out.
type outs []int

func (o outs) has(id int) bool { return slices.Contains(o, id) }

// P13.1
func TestWithout(t *testing.T) {
	l := ids(5, 3, 5, 9)
	are(t, gens.Without(l, outs{5, 7}.has), l[1], l[3])
	are(t, gens.Without(l, outs{}.has), l...)
	are(t, gens.Without(l, nil), l...)
	are(t, gens.Without(l, outs{3, 5, 9}.has))
	are(t, gens.Without(nil, outs{}.has))
	many := ids(upTo(40)...)
	are(t, gens.Without(many, nil), many...)
	got := gens.Without(l, nil)
	got = append(got[:1], l[1])
	got[0].Id = 99
	are(t, l, ids(5, 3, 5, 9)...)
}

// P13.1
func TestSame(t *testing.T) {
	l := ids(1, 2)
	for i, change := range []func(b *api.Backend){func(b *api.Backend) { b.Id++ }, func(b *api.Backend) { b.Addr++ }, func(b *api.Backend) { b.Weight++ }} {
		other := slices.Clone(l)
		change(&other[1])
		if gens.Same(l, other) || gens.Same(other, l) {
			t.Errorf("change %d", i)
		}
	}
	if !gens.Same(l, slices.Clone(l)) || !gens.Same(nil, []api.Backend{}) || gens.Same(l, l[:1]) || gens.Same(nil, l) || gens.Same(l, []api.Backend{l[1], l[0]}) {
		t.Error("Same")
	}
}

// P13.1
func TestWeight(t *testing.T) {
	for want, l := range map[int][]api.Backend{0: nil, 11: {{Weight: 1}, {Weight: 10}}, 3: {{Weight: 0}, {Weight: 11}, {Weight: -5}, {Weight: 3}, {Weight: math.MaxInt}, {Weight: math.MinInt}}} {
		if got := gens.Weight(l); got != want {
			t.Errorf("Weight(%v) = %d", l, got)
		}
	}
	if got := gens.Weight(make([]api.Backend, 40)); got != 0 {
		t.Errorf("%d", got)
	}
}

// P13.2
func TestText(t *testing.T) {
	for s, l := range map[string][]api.Backend{
		"-":                                    nil,
		"1@10.0.0.9*2":                         {{Id: 1, Addr: 0x0a000009, Weight: 2}},
		"0@0.0.0.0*1,65535@255.255.255.255*10": {{Weight: 1}, {Id: 65535, Addr: math.MaxUint32, Weight: 10}},
		"2@0.0.0.1*1,1@0.0.0.2*1":              {{Id: 2, Addr: 1, Weight: 1}, {Id: 1, Addr: 2, Weight: 1}},
		"-7@0.0.0.0*-3":                        {{Id: -7, Weight: -3}},
		"1@0.0.0.0*0":                          {{Id: 1}},
	} {
		if got := gens.Text(l); got != s {
			t.Errorf("Text(%v) = %q", l, got)
		}
		got, ok := gens.Parse(s)
		if ok != gens.May(l) || (ok && !gens.Same(got, l)) || (!ok && len(got) != 0) {
			t.Errorf("Parse(%q) = %v, %v", s, got, ok)
		}
	}
}

// P13.2
func TestParseRefuses(t *testing.T) {
	for _, s := range []string{"", " ", "--", "-,", ",", "1", "1@10.0.0.9", "1@10.0.0.9*", "@10.0.0.9*2", "1@*2", "1*2", "1@10.0.0.9*2,", ",1@10.0.0.9*2", "1@10.0.0.9*2,-", "1@10.0.0.9*2,,2@10.0.0.9*2",
		"01@10.0.0.9*2", "1@10.0.0.9*02", "1@10.0.0.09*2", "+1@10.0.0.9*2", "-0@10.0.0.9*2", "1@10.0.0*2", "1@10.0.0.9*2 ", " 1@10.0.0.9*2", "1@10.0.0.9*2, 2@10.0.0.9*2", "1 @10.0.0.9*2", "1@10.0.0.9*2*3", "1@@10.0.0.9*2",
		"1@10.0.0.9*11", "65536@10.0.0.9*2", "1@10.0.0.9*2,1@10.0.0.9*2", "99999999999999999999@10.0.0.9*2", "x@10.0.0.9*2", "1@10.0.0.9*x", gens.Text(ids(upTo(17)...))} {
		if got, ok := gens.Parse(s); ok || len(got) != 0 {
			t.Errorf("Parse(%q) = %v, %v", s, got, ok)
		}
	}
}

// P13.3
func TestParseOfText(t *testing.T) {
	r := rand.New(rand.NewSource(1))
	for range 200 {
		var l []api.Backend
		for range r.Intn(17) {
			l = append(l, api.Backend{Id: r.Intn(65536), Addr: r.Uint32(), Weight: 1 + r.Intn(10)})
		}
		l = gens.Sort(l)
		if !gens.May(l) || !gens.Same(gens.Sort(l), l) {
			t.Fatalf("Sort of %v: %v", l, gens.Sort(l))
		}
		if got, ok := gens.Parse(gens.Text(l)); !ok || !gens.Same(got, l) {
			t.Fatalf("%v comes back as %v, %v", l, got, ok)
		}
	}
}
