package path_test

import (
	"bytes"
	"slices"
	"testing"

	"goit/api"
	"goit/choice"
	"goit/encap"
	"goit/flows"
	"goit/ip"
	"goit/path"
	"goit/record"
)

var config = api.Config{Self: 0x0a090909, MTU: 1500}

const now = 100

func tup(n int) api.Tuple {
	return api.Tuple{Src: uint32(n), Dst: 2, Proto: api.TCP, Sport: 258, Dport: 80}
}

// packet is one of a tuple, with TCP flags.
func packet(t api.Tuple, ttl int, flags byte) []byte {
	body := []byte{byte(t.Sport >> 8), byte(t.Sport), byte(t.Dport >> 8), byte(t.Dport), 0, 8, 0, 0}
	if t.Proto == api.TCP {
		body = append(body[:4], make([]byte, 16)...)
		body[12], body[13] = 0x50, flags
	}
	return append(ip.Build(api.Header{Len: 20 + len(body), TTL: ttl, Proto: t.Proto, Src: t.Src, Dst: t.Dst}), body...)
}

func backends(ids ...int) []api.Backend {
	var l []api.Backend
	for _, id := range ids {
		l = append(l, api.Backend{Id: id, Addr: uint32(100 + id), Weight: 1})
	}
	return l
}

func chooser(ids ...int) *choice.Chooser {
	c := choice.New(13)
	c.Set(backends(ids...), nil)
	return c
}

func table(l ...api.Flow) *flows.Table {
	t := flows.New(3, 50)
	for _, f := range l {
		t.Put(f)
	}
	return t
}

func flow(n, backend, gen int, seen int64) api.Flow {
	return api.Flow{Tuple: tup(n), Backend: backend, Gen: gen, Seen: seen}
}

// is holds a plan against what it should be: forwarded to a backend (of b), and these records.
func is(t *testing.T, name string, p path.Plan, b []byte, backend int, records ...api.Record) {
	t.Helper()
	want, _ := encap.Wrap(b, config.Self, uint32(100+backend), config.MTU)
	if o := p.Out; o.Verdict != api.VForward || o.Reason != 0 || o.Backend != backend || !bytes.Equal(o.Packet, want) {
		t.Errorf("%s: %v", name, o)
	}
	if !slices.EqualFunc(p.Records, records, func(a, b api.Record) bool { return record.Same(a, b) && len(a.Backends) == 0 }) {
		t.Errorf("%s: records %v, not %v", name, p.Records, records)
	}
	for _, r := range p.Records {
		if !record.May(r) {
			t.Errorf("%s: %v may not be", name, r)
		}
	}
}

func put(f api.Flow) api.Record { return api.Record{Kind: api.RPut, Flow: f} }
func del(n int) api.Record {
	return api.Record{Kind: api.RDel, Flow: api.Flow{Tuple: tup(n)}}
}

func has(t *testing.T, name string, x *flows.Table, want ...api.Flow) {
	t.Helper()
	if got := x.All(); !slices.Equal(got, want) {
		t.Errorf("%s: flows %v, not %v", name, got, want)
	}
}

// P23.1, P23.2
func TestNewFlow(t *testing.T) {
	x, b := table(), packet(tup(1), 9, 0)
	is(t, "new", path.Packet(config, x, chooser(7), 4, now, b), b, 7, put(flow(1, 7, 4, now)))
	has(t, "new", x, flow(1, 7, 4, now))
	is(t, "known", path.Packet(config, x, chooser(7), 5, now+3, b), b, 7)
	has(t, "known", x, flow(1, 7, 4, now+3))
	is(t, "known, at an earlier time", path.Packet(config, x, chooser(7), 5, now, b), b, 7)
	has(t, "known, at an earlier time", x, flow(1, 7, 4, now+3))
}

// P23.1
func TestNewFlowsGoByTheTable(t *testing.T) {
	ch := chooser(0, 2, 3)
	for n := range 50 {
		for _, proto := range []int{api.TCP, api.UDP} {
			k := tup(n)
			k.Proto = proto
			want, _ := ch.Pick(k)
			x, b := table(), packet(k, 9, 0)
			is(t, "new", path.Packet(config, x, ch, 4, now, b), b, want.Id, put(api.Flow{Tuple: k, Backend: want.Id, Gen: 4, Seen: now}))
		}
	}
}

// P23.1, P23.3
func TestKnownFlowStays(t *testing.T) {
	ch := choice.New(13)
	ch.Set(backends(1, 2, 3), func(id int) bool { return id == 2 }) // it takes no new flows
	for n := range 20 {
		x, b := table(flow(n, 2, 1, 50)), packet(tup(n), 9, 0)
		is(t, "known", path.Packet(config, x, ch, 9, now, b), b, 2)
		has(t, "known", x, flow(n, 2, 1, now))
	}
}

// P23.1, P23.2
func TestKnownFlowOfABackendThatIsNoMore(t *testing.T) {
	ch := chooser(1, 3)
	for n := range 20 {
		want, _ := ch.Pick(tup(n))
		x, b := table(flow(n, 2, 1, 50)), packet(tup(n), 9, 0)
		is(t, "another backend", path.Packet(config, x, ch, 9, now, b), b, want.Id, put(flow(n, want.Id, 9, now)))
		has(t, "another backend", x, flow(n, want.Id, 9, now))
	}
	x, b := table(flow(1, 2, 1, 50), flow(2, 1, 1, 50), flow(3, 1, 1, 50)), packet(tup(1), 9, 0)
	is(t, "in a full table", path.Packet(config, x, chooser(1), 9, now, b), b, 1, put(flow(1, 1, 9, now)))
	x = table(flow(1, 2, 1, 50))
	is(t, "of no generation", path.Packet(config, x, chooser(1), -1, now, b), b, 1)
	has(t, "of no generation", x, flow(1, 2, 1, 50))
}

// P23.2
func TestEnds(t *testing.T) {
	for _, flags := range []byte{1, 4, 5, 0x11} {
		b := packet(tup(1), 9, flags)
		x := table(flow(1, 7, 1, 50), flow(2, 7, 1, 50))
		is(t, "known", path.Packet(config, x, chooser(7), 4, now, b), b, 7, del(1))
		has(t, "known", x, flow(2, 7, 1, 50))
		is(t, "not known", path.Packet(config, x, chooser(7), 4, now, b), b, 7)
		has(t, "not known", x, flow(2, 7, 1, 50))
		x = table(flow(1, 9, 1, 50))
		is(t, "of a backend that is no more", path.Packet(config, x, chooser(7), 4, now, b), b, 7, del(1))
		has(t, "of a backend that is no more", x)
	}
}

// P23.2
func TestNoRoom(t *testing.T) {
	full := []api.Flow{flow(1, 7, 1, 50), flow(2, 7, 1, 50), flow(3, 7, 1, 50)}
	x, b := table(full...), packet(tup(4), 9, 0)
	is(t, "full", path.Packet(config, x, chooser(7), 4, now, b), b, 7)
	has(t, "full", x, full...)
	for _, gen := range []int{-1, 1000001} {
		x = table()
		is(t, "no generation", path.Packet(config, x, chooser(7), gen, now, b), b, 7)
		has(t, "no generation", x)
	}
}

// P23.1: what is dropped changes nothing
func TestDropped(t *testing.T) {
	good := packet(tup(1), 9, 0)
	badSum := packet(tup(1), 9, 0)
	badSum[10] ^= 1
	small := config
	small.MTU = 59
	for name, x := range map[string]struct {
		c    api.Config
		ch   *choice.Chooser
		b    []byte
		want int
	}{
		"nothing":                {config, chooser(7), nil, api.NShort},
		"a bad sum":              {config, chooser(7), badSum, api.NSum},
		"another protocol":       {config, chooser(7), packet(api.Tuple{Proto: 1}, 9, 0), api.NProto},
		"a bad sum, no backend":  {config, chooser(), badSum, api.NSum},
		"no backend":             {config, chooser(), good, api.NNone},
		"no backend, too old":    {config, chooser(), packet(tup(1), 1, 0), api.NNone},
		"too old":                {config, chooser(7), packet(tup(1), 1, 0), api.NTTL},
		"too old, the end of it": {config, chooser(7), packet(tup(1), 1, 1), api.NTTL},
		"too long":               {small, chooser(7), good, api.NMTU},
	} {
		for _, l := range [][]api.Flow{nil, {flow(1, 7, 1, 50)}} {
			table := table(l...)
			p := path.Packet(x.c, table, x.ch, 4, now, x.b)
			if o := p.Out; o.Verdict != api.VDrop || o.Reason != x.want || o.Backend != 0 || len(o.Packet) != 0 || len(p.Records) != 0 {
				t.Errorf("%s: %v, %v", name, p.Out, p.Records)
			}
			has(t, name, table, l...)
		}
	}
}

// P23.1
func TestNoPlan(t *testing.T) {
	b, x := packet(tup(1), 9, 0), table()
	for name, p := range map[string]path.Plan{
		"no table": path.Packet(config, nil, chooser(7), 4, now, b), "no chooser": path.Packet(config, x, nil, 4, now, b), "nothing": path.Packet(config, nil, nil, 4, now, nil),
		"a time below 0": path.Packet(config, x, chooser(7), 4, -1, b), "a time above": path.Packet(config, x, chooser(7), 4, api.MaxTime+1, nil),
	} {
		if o := p.Out; o.Verdict != 0 || o.Reason != 0 || o.Backend != 0 || o.Packet != nil || p.Records != nil {
			t.Errorf("%s: %v", name, p)
		}
	}
	has(t, "no plan", x)
	for _, at := range []int64{0, api.MaxTime} {
		x := table()
		is(t, "a time", path.Packet(config, x, chooser(7), 4, at, b), b, 7, put(flow(1, 7, 4, at)))
	}
}
