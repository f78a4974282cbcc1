package record_test

import (
	"bytes"
	"math/rand"
	"testing"

	"goit/api"
	"goit/frame"
	"goit/record"
)

var (
	tup   = api.Tuple{Src: 0x0a000001, Dst: 0x0a000002, Proto: api.TCP, Sport: 5, Dport: 80}
	flow  = api.Flow{Tuple: tup, Backend: 0x0102, Gen: 0x030405, Seen: 0x060708090a}
	two   = []api.Backend{{Id: 0x0102, Addr: 0x03040506, Weight: 7}, {Id: 1, Addr: 2, Weight: 10}}
	tupB  = []byte{10, 0, 0, 1, 10, 0, 0, 2, 6, 0, 5, 0, 80}
	kinds = []int{api.RPut, api.RDel, api.RGen, api.RDrain, api.RClear, api.REnd}
)

// everything is a record of a kind in which all has a value.
func everything(kind int) api.Record {
	return api.Record{Kind: kind, Flow: flow, Gen: 0x0a0b0c, Backends: append([]api.Backend{}, two...), Backend: 0x0506, Until: 0x0708090a0b, Count: 0x0d0e0f}
}

// plain is what each kind has, of everything.
func plain(kind int) api.Record {
	r := everything(kind)
	switch kind {
	case api.RPut:
		return api.Record{Kind: kind, Flow: r.Flow}
	case api.RDel:
		return api.Record{Kind: kind, Flow: api.Flow{Tuple: r.Flow.Tuple}}
	case api.RGen:
		return api.Record{Kind: kind, Gen: r.Gen, Backends: r.Backends}
	case api.RDrain:
		return api.Record{Kind: kind, Backend: r.Backend, Until: r.Until}
	case api.RClear:
		return api.Record{Kind: kind, Backend: r.Backend}
	case api.REnd:
		return api.Record{Kind: kind, Count: r.Count}
	}
	return api.Record{Kind: kind}
}

// equal holds all of two records against each other.
func equal(a, b api.Record) bool {
	if len(a.Backends) != len(b.Backends) {
		return false
	}
	for i := range a.Backends {
		if a.Backends[i] != b.Backends[i] {
			return false
		}
	}
	return a.Kind == b.Kind && a.Flow == b.Flow && a.Gen == b.Gen && a.Backend == b.Backend && a.Until == b.Until && a.Count == b.Count
}

// changes are of each kind the things that it has, with a value that may not be, or that may be just so.
var changes = []struct {
	kind   int
	may    bool
	change func(r *api.Record)
}{
	{api.RPut, false, func(r *api.Record) { r.Flow.Tuple.Proto = 1 }}, {api.RPut, false, func(r *api.Record) { r.Flow.Tuple.Dport = 65536 }},
	{api.RPut, true, func(r *api.Record) { r.Flow.Backend = 65535 }}, {api.RPut, false, func(r *api.Record) { r.Flow.Backend = 65536 }}, {api.RPut, false, func(r *api.Record) { r.Flow.Backend = -1 }},
	{api.RPut, true, func(r *api.Record) { r.Flow.Gen = 1000000 }}, {api.RPut, false, func(r *api.Record) { r.Flow.Gen = 1000001 }}, {api.RPut, false, func(r *api.Record) { r.Flow.Gen = -1 }},
	{api.RPut, true, func(r *api.Record) { r.Flow.Seen = api.MaxTime }}, {api.RPut, false, func(r *api.Record) { r.Flow.Seen = api.MaxTime + 1 }}, {api.RPut, false, func(r *api.Record) { r.Flow.Seen = -1 }},
	{api.RPut, true, func(r *api.Record) {
		r.Gen, r.Backend, r.Until, r.Count, r.Backends = -1, -1, -1, -1, make([]api.Backend, 99)
	}},
	{api.RDel, false, func(r *api.Record) { r.Flow.Tuple.Sport = -1 }}, {api.RDel, true, func(r *api.Record) { r.Flow.Backend, r.Flow.Gen, r.Flow.Seen = -1, -1, -1 }},
	{api.RGen, true, func(r *api.Record) { r.Gen = 0 }}, {api.RGen, true, func(r *api.Record) { r.Gen = 1000000 }}, {api.RGen, false, func(r *api.Record) { r.Gen = 1000001 }}, {api.RGen, false, func(r *api.Record) { r.Gen = -1 }},
	{api.RGen, true, func(r *api.Record) { r.Backends = nil }}, {api.RGen, true, func(r *api.Record) { r.Flow, r.Backend = api.Flow{}, -1 }},
	{api.RGen, true, func(r *api.Record) { r.Backends = []api.Backend{{Id: 5, Weight: 1}, {Id: 5, Weight: 1}} }},
	{api.RGen, false, func(r *api.Record) { r.Backends[1].Id = -1 }}, {api.RGen, false, func(r *api.Record) { r.Backends[1].Id = 65536 }}, {api.RGen, true, func(r *api.Record) { r.Backends[1].Id = 65535 }},
	{api.RGen, false, func(r *api.Record) { r.Backends[0].Weight = 0 }}, {api.RGen, false, func(r *api.Record) { r.Backends[1].Weight = 11 }},
	{api.RGen, true, func(r *api.Record) { r.Backends = backends(16) }}, {api.RGen, false, func(r *api.Record) { r.Backends = backends(17) }},
	{api.RDrain, true, func(r *api.Record) { r.Backend, r.Until = 65535, api.MaxTime }}, {api.RDrain, true, func(r *api.Record) { r.Backend, r.Until = 0, 0 }},
	{api.RDrain, false, func(r *api.Record) { r.Backend = 65536 }}, {api.RDrain, false, func(r *api.Record) { r.Backend = -1 }}, {api.RDrain, false, func(r *api.Record) { r.Until = -1 }}, {api.RDrain, false, func(r *api.Record) { r.Until = api.MaxTime + 1 }},
	{api.RClear, true, func(r *api.Record) { r.Backend, r.Until = 65535, -1 }}, {api.RClear, false, func(r *api.Record) { r.Backend = 65536 }}, {api.RClear, false, func(r *api.Record) { r.Backend = -1 }},
	{api.REnd, true, func(r *api.Record) { r.Count, r.Backend = 1000000, -1 }}, {api.REnd, true, func(r *api.Record) { r.Count = 0 }}, {api.REnd, false, func(r *api.Record) { r.Count = 1000001 }}, {api.REnd, false, func(r *api.Record) { r.Count = -1 }},
	{api.REnd, false, func(r *api.Record) { r.Kind = 0 }}, {api.REnd, false, func(r *api.Record) { r.Kind = 7 }}, {api.REnd, false, func(r *api.Record) { r.Kind = -1 }},
}

func backends(n int) []api.Backend {
	l := make([]api.Backend, n)
	for i := range l {
		l[i] = api.Backend{Id: i, Weight: 1 + i%10}
	}
	return l
}

// P8.1, P8.2
func TestMay(t *testing.T) {
	for _, kind := range kinds {
		if !record.May(everything(kind)) || !record.May(plain(kind)) {
			t.Errorf("kind %d may not be", kind)
		}
	}
	for i, x := range changes {
		r := everything(x.kind)
		x.change(&r)
		if record.May(r) != x.may {
			t.Errorf("change %d of kind %d: may be %v", i, x.kind, !x.may)
		}
		f, e := record.Encode(r, 3)
		if (e == api.OK) != x.may || (!x.may && (e != api.ErrArg || !frame.Same(f, api.Frame{}))) {
			t.Errorf("change %d of kind %d: Encode tells %d", i, x.kind, e)
		}
	}
}

// P8.1
func TestPlain(t *testing.T) {
	for _, kind := range append([]int{0, 7, -1}, kinds...) {
		if got := record.Plain(everything(kind)); !equal(got, plain(kind)) {
			t.Errorf("Plain of kind %d: %v", kind, got)
		}
	}
	r := everything(api.RGen)
	record.Plain(r).Backends[0].Id = 99
	record.In(r, 3).Backends[0].Id = 99
	record.In(r, 1)
	if !equal(r, everything(api.RGen)) {
		t.Error("Plain, In share memory")
	}
}

// P8.1
func TestSame(t *testing.T) {
	changes := []func(r *api.Record){
		func(r *api.Record) { r.Flow.Tuple.Sport++ }, func(r *api.Record) { r.Flow.Backend++ }, func(r *api.Record) { r.Flow.Gen++ }, func(r *api.Record) { r.Flow.Seen++ },
		func(r *api.Record) { r.Gen++ }, func(r *api.Record) { r.Backends = r.Backends[:1] }, func(r *api.Record) { r.Backends[1].Addr++ },
		func(r *api.Record) { r.Backend++ }, func(r *api.Record) { r.Until++ }, func(r *api.Record) { r.Count++ },
	}
	for _, kind := range append([]int{0, 7}, kinds...) {
		for i, change := range changes {
			r := everything(kind)
			change(&r)
			want := equal(record.Plain(r), plain(kind))
			if record.Same(r, everything(kind)) != want || record.Same(plain(kind), r) != want {
				t.Errorf("kind %d, change %d: same is not %v", kind, i, want)
			}
		}
		if record.Same(everything(kind), everything(kind+1)) || !record.Same(everything(kind), plain(kind)) {
			t.Errorf("kind %d: same as another, or not as itself", kind)
		}
	}
	if !record.Same(api.Record{Kind: api.RGen}, api.Record{Kind: api.RGen, Backends: []api.Backend{}}) {
		t.Error("no backends and none")
	}
}

// in is a record as it would be read from a format.
func in(kind, version int) api.Record {
	r := plain(kind)
	if version < 2 {
		r.Flow.Gen = 0
		for i := range r.Backends {
			r.Backends[i].Weight = 1
		}
	}
	if version < 3 {
		r.Flow.Seen = 0
	}
	return r
}

// P8.1
func TestIn(t *testing.T) {
	for _, kind := range append([]int{0, 7}, kinds...) {
		for version := 1; version <= 3; version++ {
			if got := record.In(everything(kind), version); !equal(got, in(kind, version)) {
				t.Errorf("In(%d, %d): %v", kind, version, got)
			}
		}
		for _, version := range []int{0, 4, -1} {
			if got := record.In(everything(kind), version); !equal(got, api.Record{}) {
				t.Errorf("In(%d, %d): %v", kind, version, got)
			}
		}
	}
}

// body is what each kind has in a format.
func body(kind, version int) []byte {
	switch kind {
	case api.RPut:
		b := append(bytes.Clone(tupB), 1, 2)
		if version >= 2 {
			b = append(b, 0, 3, 4, 5)
		}
		if version >= 3 {
			b = append(b, 0, 0, 0, 6, 7, 8, 9, 10)
		}
		return b
	case api.RDel:
		return tupB
	case api.RGen:
		if version < 2 {
			return []byte{0, 10, 11, 12, 2, 1, 2, 3, 4, 5, 6, 0, 1, 0, 0, 0, 2}
		}
		return []byte{0, 10, 11, 12, 2, 1, 2, 3, 4, 5, 6, 7, 0, 1, 0, 0, 0, 2, 10}
	case api.RDrain:
		return []byte{5, 6, 0, 0, 0, 7, 8, 9, 10, 11}
	case api.RClear:
		return []byte{5, 6}
	}
	return []byte{0, 13, 14, 15}
}

// P8.2, P8.3
func TestEncodeAndDecode(t *testing.T) {
	for _, kind := range kinds {
		for version := 1; version <= 3; version++ {
			want := api.Frame{Kind: kind, Version: version, Body: body(kind, version)}
			f, e := record.Encode(everything(kind), version)
			if e != api.OK || !frame.Same(f, want) {
				t.Errorf("Encode(%d, %d): %d, %x, not %x", kind, version, e, f.Body, want.Body)
			}
			r, e := record.Decode(want)
			if e != api.OK || !equal(r, in(kind, version)) {
				t.Errorf("Decode(%d, %d): %d, %v", kind, version, e, r)
			}
		}
	}
	for _, version := range []int{0, 4, -1} {
		if f, e := record.Encode(api.Record{}, version); e != api.ErrVersion || !frame.Same(f, api.Frame{}) {
			t.Errorf("Encode in format %d: %d", version, e)
		}
	}
	if f, e := record.Encode(api.Record{Kind: api.RGen}, 3); e != api.OK || !bytes.Equal(f.Body, make([]byte, 5)) {
		t.Errorf("of no backends: %d, %x", e, f.Body)
	}
}

// P8.2
func TestDecodeRefuses(t *testing.T) {
	check := func(name string, f api.Frame, want api.Errno) {
		t.Helper()
		r, e := record.Decode(f)
		if e != want || (e != api.OK && !equal(r, api.Record{})) {
			t.Errorf("%s: %d, not %d", name, e, want)
		}
	}
	for _, kind := range kinds {
		for version := 1; version <= 3; version++ {
			b := body(kind, version)
			check("too long", api.Frame{Kind: kind, Version: version, Body: append(bytes.Clone(b), 0)}, api.ErrForm)
			for n := range b {
				check("too short", api.Frame{Kind: kind, Version: version, Body: b[:n]}, api.ErrForm)
			}
		}
		for _, version := range []int{0, 4, -1, 255} {
			check("no version", api.Frame{Kind: kind, Version: version, Body: body(kind, 3)}, api.ErrVersion)
		}
	}
	for _, kind := range []int{0, 7, -1, 100} {
		check("no kind", api.Frame{Kind: kind, Version: 3}, api.ErrForm)
	}
	many := []byte{0, 0, 0, 1, 17}
	for i := range 17 {
		many = append(many, 0, byte(i), 0, 0, 0, 0, 1)
	}
	few := append([]byte{0, 0, 0, 1, 16}, many[5:5+7*16]...)
	check("sixteen backends", api.Frame{Kind: api.RGen, Version: 3, Body: few}, api.OK)
	check("seventeen backends", api.Frame{Kind: api.RGen, Version: 3, Body: many}, api.ErrForm)
	few[11] = 0
	check("a weight of 0", api.Frame{Kind: api.RGen, Version: 3, Body: few}, api.ErrForm)
	few[11] = 11
	check("a weight of 11", api.Frame{Kind: api.RGen, Version: 3, Body: few}, api.ErrForm)
	check("no tuple", api.Frame{Kind: api.RDel, Version: 3, Body: make([]byte, 13)}, api.ErrForm)
	check("no tuple", api.Frame{Kind: api.RPut, Version: 1, Body: make([]byte, 15)}, api.ErrForm)
	check("a count too great", api.Frame{Kind: api.REnd, Version: 3, Body: []byte{0, 15, 0x42, 0x41}}, api.ErrForm)
	check("the greatest count", api.Frame{Kind: api.REnd, Version: 3, Body: []byte{0, 15, 0x42, 0x40}}, api.OK)
	check("a time below 0", api.Frame{Kind: api.RDrain, Version: 3, Body: []byte{0, 0, 255, 255, 255, 255, 255, 255, 255, 255}}, api.ErrForm)
	check("a time too great", api.Frame{Kind: api.RDrain, Version: 3, Body: []byte{0, 0, 0, 0, 1, 0, 0, 0, 0, 1}}, api.ErrForm)
}

// P8.3
func TestDecodeOfEncode(t *testing.T) {
	r := rand.New(rand.NewSource(1))
	for range 500 {
		x := api.Record{Kind: kinds[r.Intn(len(kinds))], Gen: r.Intn(1000001), Backend: r.Intn(65536), Until: r.Int63n(api.MaxTime + 1), Count: r.Intn(1000001), Backends: backends(r.Intn(17))}
		x.Flow = api.Flow{Tuple: tup, Backend: r.Intn(65536), Gen: r.Intn(1000001), Seen: r.Int63n(api.MaxTime + 1)}
		x.Flow.Tuple.Src = r.Uint32()
		version := 1 + r.Intn(3)
		f, e := record.Encode(x, version)
		got, e2 := record.Decode(f)
		if e != api.OK || e2 != api.OK || !equal(got, record.In(x, version)) {
			t.Fatalf("%v comes back as %v: %d, %d", x, got, e, e2)
		}
		if again, e := record.Encode(got, version); e != api.OK || !frame.Same(again, f) {
			t.Fatalf("%v, encoded again: %v", f, again)
		}
	}
}
