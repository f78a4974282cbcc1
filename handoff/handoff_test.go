package handoff_test

import (
	"bytes"
	"math"
	"math/rand"
	"testing"

	"goit/api"
	"goit/frame"
	"goit/handoff"
	"goit/record"
	"goit/state"
)

func flow(n int) api.Flow {
	return api.Flow{Tuple: api.Tuple{Src: uint32(n), Dst: 2, Proto: api.TCP, Sport: 3, Dport: 4}, Backend: 7, Gen: 5, Seen: 9}
}

func put(n int) api.Record            { return api.Record{Kind: api.RPut, Flow: flow(n)} }
func drain(b int, u int64) api.Record { return api.Record{Kind: api.RDrain, Backend: b, Until: u} }
func end(n int) api.Record            { return api.Record{Kind: api.REnd, Count: n} }
func gen(n int, ids ...int) api.Record {
	r := api.Record{Kind: api.RGen, Gen: n}
	for _, id := range ids {
		r.Backends = append(r.Backends, api.Backend{Id: id, Addr: 9, Weight: 2})
	}
	return r
}

// stream is records as frames of a format.
func stream(version int, l ...api.Record) []byte {
	var b []byte
	for _, r := range l {
		f, _ := record.Encode(r, version)
		x, _ := frame.Put(f)
		b = append(b, x...)
	}
	return b
}

func whole() api.State {
	return api.State{Gen: 4, Backends: gen(4, 1, 2).Backends, Drains: []api.Drain{{Backend: 1, Until: 6}, {Backend: 65535, Until: 7}}, Flows: []api.Flow{flow(1), flow(2)}}
}

// P24.1
func TestSend(t *testing.T) {
	for _, x := range []struct {
		v    api.State
		now  int64
		want []byte
	}{
		{api.State{}, 0, stream(3, gen(0), drain(65535, 0), end(2))},
		{api.State{}, api.MaxTime, stream(3, gen(0), drain(65535, api.MaxTime), end(2))},
		{whole(), 8, stream(3, gen(4, 1, 2), drain(1, 6), drain(65535, 7), put(1), put(2), drain(65535, 8), end(6))},
	} {
		if b, e := handoff.Send(x.v, x.now); e != api.OK || !bytes.Equal(b, x.want) {
			t.Errorf("%v at %d: %d, %x", x.v, x.now, e, b)
		}
	}
}

// P24.1
func TestSendRefuses(t *testing.T) {
	bad := whole()
	bad.Flows[0], bad.Flows[1] = bad.Flows[1], bad.Flows[0]
	full := api.State{}
	for i := range api.MaxFlows + 1 {
		full.Flows = append(full.Flows, flow(i))
	}
	for name, x := range map[string]struct {
		v   api.State
		now int64
	}{"out of order": {bad, 5}, "too many": {full, 5}, "no generation": {api.State{Gen: -1}, 5}, "a time below": {whole(), -1}, "a time above": {whole(), api.MaxTime + 1}, "no time at all": {whole(), math.MinInt64}} {
		if b, e := handoff.Send(x.v, x.now); e != api.ErrArg || len(b) != 0 {
			t.Errorf("%s: %d", name, e)
		}
	}
}

// P24.2
func TestReceive(t *testing.T) {
	cut := stream(3, gen(0), drain(65535, 5), end(2))
	bad := stream(3, gen(0), drain(65535, 5), end(2))
	bad[len(bad)-1] ^= 1
	none, _ := frame.Put(api.Frame{Kind: 9, Version: 3})
	join := func(l ...[]byte) []byte { return bytes.Join(l, nil) }
	var many []api.Record
	for i := range api.MaxFlows + 1 {
		many = append(many, put(i))
	}
	for name, x := range map[string]struct {
		b    []byte
		want api.Errno
	}{
		"empty state":                   {stream(3, gen(0), drain(65535, 5), end(2)), api.OK},
		"nothing":                       {nil, api.ErrCut},
		"a byte less":                   {cut[:len(cut)-1], api.ErrCut},
		"a byte more":                   {append(bytes.Clone(cut), 0), api.ErrCut},
		"a bad sum":                     {bad, api.ErrCut},
		"a bad sum behind no record":    {join(none, bad), api.ErrCut},
		"no record":                     {join(none, cut), api.ErrForm},
		"no record, no end":             {none, api.ErrForm},
		"no end":                        {stream(3, gen(0), drain(65535, 5)), api.ErrCut},
		"no end, of an older format":    {stream(2, gen(0)), api.ErrCut},
		"nothing ahead":                 {stream(3, end(0)), api.ErrCut},
		"another count":                 {stream(3, gen(0), drain(65535, 5), end(3)), api.ErrCut},
		"another count, too":            {stream(3, gen(0), drain(65535, 5), end(1)), api.ErrCut},
		"an end ahead":                  {stream(3, gen(0), end(1), drain(65535, 5), end(3)), api.ErrCut},
		"something behind":              {stream(3, gen(0), drain(65535, 5), end(2), put(1)), api.ErrCut},
		"two streams":                   {join(cut, cut), api.ErrCut},
		"an older format":               {stream(2, gen(0), drain(65535, 5), end(2)), api.ErrVersion},
		"an end in an older format":     {join(stream(3, gen(0), drain(65535, 5)), stream(1, end(2))), api.ErrVersion},
		"an older format, no clock":     {join(stream(1, gen(0)), stream(3, put(1), end(2))), api.ErrVersion},
		"no clock":                      {stream(3, gen(0), put(1), end(2)), api.ErrForm},
		"the clock of another":          {stream(3, gen(0), drain(65534, 5), end(2)), api.ErrForm},
		"no clock but an end":           {stream(3, gen(0), end(1)), api.ErrForm},
		"the clock alone":               {stream(3, drain(65535, 5), end(1)), api.ErrForm},
		"no generation":                 {stream(3, put(1), drain(65535, 5), end(2)), api.ErrForm},
		"a generation twice":            {stream(3, gen(0), gen(0), drain(65535, 5), end(3)), api.ErrForm},
		"out of order":                  {stream(3, gen(0), put(2), put(1), drain(65535, 5), end(4)), api.ErrForm},
		"one twice":                     {stream(3, gen(0), put(1), put(1), drain(65535, 5), end(4)), api.ErrForm},
		"a drain behind a flow":         {stream(3, gen(0), put(1), drain(4, 5), drain(65535, 5), end(4)), api.ErrForm},
		"one that takes another away":   {stream(3, gen(0), put(1), api.Record{Kind: api.RDel, Flow: flow(1)}, drain(65535, 5), end(4)), api.ErrForm},
		"one that takes nothing away":   {stream(3, gen(0), api.Record{Kind: api.RClear, Backend: 1}, drain(65535, 5), end(3)), api.ErrForm},
		"backends that are no set":      {stream(3, gen(0, 2, 1), drain(65535, 5), end(2)), api.ErrForm},
		"more flows than there may be":  {stream(3, append(append([]api.Record{gen(0)}, many...), drain(65535, 5), end(len(many)+2))...), api.ErrForm},
		"as many flows as there may be": {stream(3, append(append([]api.Record{gen(0)}, many[1:]...), drain(65535, 5), end(len(many)+1))...), api.OK},
	} {
		v, now, e := handoff.Receive(x.b)
		if e != x.want || (e != api.OK && (now != 0 || !state.Same(v, api.State{}))) || (e == api.OK && now != 5) {
			t.Errorf("%s: %d, not %d (at %d)", name, e, x.want, now)
		}
	}
}

// P24.3
func TestReceiveOfSend(t *testing.T) {
	r := rand.New(rand.NewSource(1))
	for range 60 {
		st := state.New()
		st.Apply(gen(r.Intn(9), 1, 2, 5))
		for range r.Intn(20) {
			st.Apply([]api.Record{put(r.Intn(30)), drain(r.Intn(9), int64(r.Intn(9))), drain(65535, 3)}[r.Intn(3)])
		}
		now := r.Int63n(api.MaxTime + 1)
		b, e := handoff.Send(st.View(), now)
		if e != api.OK {
			t.Fatalf("Send: %d", e)
		}
		v, at, e := handoff.Receive(b)
		if e != api.OK || at != now || !state.Same(v, st.View()) {
			t.Fatalf("%v at %d comes back as %v at %d: %d", st.View(), now, v, at, e)
		}
	}
}

// P24.3
func TestWhatIsNotWholeIsRefused(t *testing.T) {
	r := rand.New(rand.NewSource(2))
	b, _ := handoff.Send(whole(), 8)
	for n := range b {
		if v, now, e := handoff.Receive(b[:n]); e != api.ErrCut || now != 0 || !state.Same(v, api.State{}) {
			t.Errorf("of %d bytes: %d", n, e)
		}
		c := bytes.Clone(b)
		c[n] ^= byte(1 + r.Intn(255))
		if v, now, e := handoff.Receive(c); e == api.OK || now != 0 || !state.Same(v, api.State{}) {
			t.Errorf("with byte %d changed: %d", n, e)
		}
	}
}
