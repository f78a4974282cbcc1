package encap_test

import (
	"bytes"
	"math"
	"math/rand"
	"testing"

	"goit/api"
	"goit/encap"
	"goit/ip"
)

var header = api.Header{TOS: 0x2e, Len: 30, Id: 0x1234, Flags: 2, TTL: 9, Proto: api.UDP, Src: 0x0a000001, Dst: 0x0a000002}

// packet is one of a header, with bytes up to its Len.
func packet(h api.Header) []byte {
	b := ip.Build(h)
	for i := 20; i < h.Len; i++ {
		b = append(b, byte(i))
	}
	return b
}

// with is the first packet with something else in its header.
func with(change func(h *api.Header)) []byte {
	h := header
	change(&h)
	return packet(h)
}

// P22.1
func TestWrap(t *testing.T) {
	b := packet(header)
	got, reason := encap.Wrap(append(b, 1, 2, 3), 0x01020304, 0x05060708, 50)
	if reason != 0 || len(got) != 50 {
		t.Fatalf("%d, %x", reason, got)
	}
	want := ip.Build(api.Header{TOS: 0x2e, Len: 50, Id: 0x1234, Flags: 2, TTL: 64, Proto: 4, Src: 0x01020304, Dst: 0x05060708})
	want = append(want, with(func(h *api.Header) { h.TTL = 8 })...)
	if !bytes.Equal(got, want) {
		t.Errorf("%x, not %x", got, want)
	}
	if got[0] = 0; b[0] != 0x45 || !bytes.Equal(b, packet(header)) {
		t.Error("Wrap changes what is handed in")
	}
}

// P22.1
func TestWrapOfFlags(t *testing.T) {
	for flags := range 8 {
		got, reason := encap.Wrap(with(func(h *api.Header) { h.Flags, h.Off = flags, 77 }), 1, 2, 1500)
		if reason != 0 {
			t.Fatalf("flags %d: %d", flags, reason)
		}
		outer, inner, _ := ip.Parse(got)
		in, _, _ := ip.Parse(inner)
		if outer.Flags != flags&6 || outer.Off != 0 || in.Flags != flags || in.Off != 77 {
			t.Errorf("flags %d: outer %v, inner %v", flags, outer, in)
		}
	}
}

// P22.1
func TestWrapRefuses(t *testing.T) {
	b := packet(header)
	badSum := packet(header)
	badSum[10] ^= 1
	longest := with(func(h *api.Header) { h.Len = api.MaxPacket - 20 })
	tooLong := with(func(h *api.Header) { h.Len = api.MaxPacket - 19 })
	old := with(func(h *api.Header) { h.TTL, h.Len = 1, 3000 })
	for name, x := range map[string]struct {
		b    []byte
		mtu  int
		want int
	}{
		"nothing":                            {nil, 1500, api.NShort},
		"a bad sum":                          {badSum, 1500, api.NSum},
		"not whole":                          {b[:29], 10, api.NLength},
		"TTL 2":                              {with(func(h *api.Header) { h.TTL = 2 }), 1500, 0},
		"TTL 1":                              {with(func(h *api.Header) { h.TTL = 1 }), 1500, api.NTTL},
		"TTL 0":                              {with(func(h *api.Header) { h.TTL = 0 }), 1500, api.NTTL},
		"TTL 1, and too long":                {old, 1500, api.NTTL},
		"just as long":                       {b, 50, 0},
		"too long":                           {b, 49, api.NMTU},
		"no MTU":                             {b, 0, api.NMTU},
		"MTU below 0":                        {b, math.MinInt, api.NMTU},
		"the longest":                        {longest, math.MaxInt, 0},
		"longer than the longest":            {tooLong, math.MaxInt, api.NMTU},
		"as long by bytes that do not count": {append(bytes.Clone(b), 0), 50, 0},
	} {
		got, reason := encap.Wrap(x.b, 1, 2, x.mtu)
		if reason != x.want || (reason != 0 && len(got) != 0) {
			t.Errorf("%s: %d, not %d", name, reason, x.want)
		}
	}
}

// P22.2
func TestUnwrap(t *testing.T) {
	inner := packet(header)
	in := func(proto, length int, inner []byte) []byte {
		h := api.Header{Len: length, TTL: 1, Proto: proto, Src: 7, Dst: 8}
		return append(ip.Build(h), inner...)
	}
	badSum := packet(header)
	badSum[10] ^= 1
	badOuter := in(4, 50, inner)
	badOuter[11] ^= 1
	for name, x := range map[string]struct {
		b    []byte
		want int
	}{
		"whole":                        {in(4, 50, inner), 0},
		"bytes behind the outer one":   {append(in(4, 50, inner), 9), 0},
		"bytes behind the inner one":   {in(4, 52, append(bytes.Clone(inner), 9, 9)), 0},
		"nothing":                      {nil, api.NShort},
		"a bad sum":                    {badOuter, api.NSum},
		"not whole":                    {in(4, 51, inner), api.NLength},
		"another protocol":             {in(api.TCP, 50, inner), api.NProto},
		"another protocol, no inner":   {in(api.TCP, 20, nil), api.NProto},
		"no inner one":                 {in(4, 20, nil), api.NShort},
		"a bad inner sum":              {in(4, 50, badSum), api.NSum},
		"an inner one that is cut off": {in(4, 49, inner), api.NLength},
	} {
		got, from, to, reason := encap.Unwrap(x.b)
		if reason != x.want {
			t.Errorf("%s: %d, not %d", name, reason, x.want)
		}
		if reason == 0 && (!bytes.Equal(got, inner) || from != 7 || to != 8) || reason != 0 && (len(got) != 0 || from != 0 || to != 0) {
			t.Errorf("%s: %x, from %d to %d", name, got, from, to)
		}
	}
	b := in(4, 50, inner)
	got, _, _, _ := encap.Unwrap(b)
	got = append(got[:1], 9)
	if got[0] = 0; !bytes.Equal(b, in(4, 50, inner)) {
		t.Error("Unwrap shares memory")
	}
}

// options is a packet with options, of random bytes.
func options(r *rand.Rand) []byte {
	words := 5 + r.Intn(11)
	b := make([]byte, 4*words+r.Intn(50))
	r.Read(b)
	b[0], b[2], b[3], b[8], b[10], b[11] = 0x40|byte(words), 0, byte(len(b)), byte(2+r.Intn(254)), 0, 0
	s := 0
	for i := 0; i < 4*words; i += 2 {
		s += int(b[i])<<8 | int(b[i+1])
	}
	for s > 0xffff {
		s = s>>16 + s&0xffff
	}
	b[10], b[11] = byte(^s>>8), byte(^s)
	return b
}

// P22.3
func TestUnwrapOfWrap(t *testing.T) {
	r := rand.New(rand.NewSource(1))
	for range 2000 {
		b := options(r)
		self, to := r.Uint32(), r.Uint32()
		wrapped, reason := encap.Wrap(b, self, to, 1500)
		if reason != 0 {
			t.Fatalf("Wrap(%x): %d", b, reason)
		}
		got, from, dst, reason := encap.Unwrap(wrapped) // it asks for both sums
		if reason != 0 || from != self || dst != to {
			t.Fatalf("Unwrap(%x): %d", wrapped, reason)
		}
		got[8]++
		got[10], got[11] = b[10], b[11]
		if !bytes.Equal(got, b) {
			t.Fatalf("%x comes back as %x", b, got)
		}
	}
}
