package ip_test

import (
	"bytes"
	"math/rand"
	"testing"

	"goit/api"
	"goit/ip"
)

// known is a header of a packet of 115 bytes; its sum is set by summed.
var known = []byte{0x45, 0x10, 0, 0x73, 0x12, 0x34, 0x40, 0, 0x40, 0x11, 0xa6, 0x1d, 0xc0, 0xa8, 0, 1, 0xc0, 0xa8, 0, 0xc7}

// net is the sum of a header, added in wide numbers.
func net(b []byte) uint16 {
	s := 0
	for i := 0; i < len(b); i += 2 {
		s += int(b[i])<<8 | int(b[i+1])
	}
	for s > 0xffff {
		s = s>>16 + s&0xffff
	}
	return ^uint16(s)
}

// summed is a packet whose header, of so many bytes, has its right sum.
func summed(b []byte, header int) []byte {
	b[10], b[11] = 0, 0
	s := net(b[:header])
	b[10], b[11] = byte(s>>8), byte(s)
	return b
}

// packet is a header of known, with options, and n bytes behind it, as Len says.
func packet(options, n int) []byte {
	b := append(bytes.Clone(known), make([]byte, options)...)
	for i := range n {
		b = append(b, byte(i+1))
	}
	b[0] = 0x40 | byte(5+options/4)
	b[2], b[3] = byte(len(b)>>8), byte(len(b))
	return summed(b, 20+options)
}

// with is a packet with a byte changed, and its sum right again.
func with(b []byte, at int, x byte, header int) []byte {
	b = bytes.Clone(b)
	b[at] = x
	return summed(b, header)
}

// P20.1
func TestParse(t *testing.T) {
	b := summed(append(bytes.Clone(known), make([]byte, 95+3)...), 20)
	b[20], b[114], b[115] = 7, 8, 9
	b[6], b[7] = 0xff, 0xfe
	b = summed(b, 20)
	h, rest, reason := ip.Parse(b)
	want := api.Header{IHL: 5, TOS: 0x10, Len: 115, Id: 0x1234, Flags: 7, Off: 0x1ffe, TTL: 64, Proto: 17, Sum: int(b[10])<<8 | int(b[11]), Src: 0xc0a80001, Dst: 0xc0a800c7}
	if h != want || reason != 0 || !bytes.Equal(rest, b[20:115]) {
		t.Errorf("%v, %x, %d", h, rest, reason)
	}
	for _, options := range []int{0, 4, 40} {
		for _, n := range []int{0, 1, 30} {
			b := packet(options, n)
			h, rest, reason := ip.Parse(append(b, 99))
			if reason != 0 || h.IHL != 5+options/4 || h.Len != len(b) || !bytes.Equal(rest, b[20+options:]) {
				t.Errorf("%d of options, %d: %v, %x, %d", options, n, h, rest, reason)
			}
		}
	}
}

// P20.1
func TestParseRefuses(t *testing.T) {
	b := packet(4, 10)
	bad := bytes.Clone(b)
	bad[10] ^= 1
	badOption := bytes.Clone(b)
	badOption[22] ^= 1
	short := with(b, 3, 23, 24)
	for name, x := range map[string]struct {
		b    []byte
		want int
	}{
		"nothing":                        {nil, api.NShort},
		"nineteen":                       {b[:19], api.NShort},
		"nineteen of another version":    {with(packet(0, 0), 0, 0x65, 20)[:19], api.NShort},
		"version 6":                      {with(b, 0, 0x66, 24), api.NVersion},
		"version 6, IHL 4":               {with(b, 0, 0x64, 24), api.NVersion},
		"IHL 4":                          {with(b, 0, 0x44, 24), api.NHeader},
		"IHL 0":                          {with(b, 0, 0x40, 24), api.NHeader},
		"IHL 4, and its sum bad":         {[]byte{0x44, 0, 0, 20, 0, 0, 0, 0, 1, 1, 9, 9, 0, 0, 0, 0, 0, 0, 0, 0}, api.NHeader},
		"fewer than IHL says":            {b[:23], api.NShort},
		"fewer than IHL, and a bad sum":  {bad[:23], api.NShort},
		"a bad sum":                      {bad, api.NSum},
		"a bad sum by an option":         {badOption, api.NSum},
		"a bad sum, and not whole":       {bad[:30], api.NSum},
		"Len less than the header":       {short, api.NHeader},
		"Len less, and not whole":        {short[:24], api.NHeader},
		"Len 0":                          {with(b, 3, 0, 24), api.NHeader},
		"fewer than Len":                 {b[:len(b)-1], api.NLength},
		"the header alone":               {b[:24], api.NLength},
		"the header alone, as it should": {with(b, 3, 24, 24)[:24], 0},
	} {
		h, rest, reason := ip.Parse(x.b)
		if reason != x.want || (reason != 0 && (h != api.Header{} || len(rest) != 0)) {
			t.Errorf("%s: %d, not %d (%v, %x)", name, reason, x.want, h, rest)
		}
	}
}

// P20.2
func TestWhole(t *testing.T) {
	for _, x := range []struct {
		flags, off int
		want       bool
	}{{0, 0, true}, {2, 0, true}, {4, 0, true}, {6, 0, true}, {1, 0, false}, {3, 0, false}, {7, 0, false}, {0, 1, false}, {2, 0x1fff, false}, {1, 1, false}} {
		if got := ip.Whole(api.Header{Flags: x.flags, Off: x.off}); got != x.want {
			t.Errorf("flags %d, off %d: %v", x.flags, x.off, got)
		}
	}
}

// P20.2
func TestBuild(t *testing.T) {
	h := api.Header{IHL: 9, TOS: 0x10, Len: 115, Id: 0x1234, Flags: 2, TTL: 64, Proto: 17, Sum: 77, Src: 0xc0a80001, Dst: 0xc0a800c7}
	want := summed(bytes.Clone(known), 20)
	if got := ip.Build(h); !bytes.Equal(got, want) {
		t.Errorf("%x, not %x", got, want)
	}
	h.TOS, h.Len, h.Id, h.Flags, h.Off, h.TTL, h.Proto = h.TOS|0x100, h.Len|0x10000, h.Id|0x10000, 2|8, 0x2000, 64|0x100, 17|0x100
	if got := ip.Build(h); !bytes.Equal(got, want) {
		t.Errorf("by the lowest bits: %x, not %x", got, want)
	}
	ones := ip.Build(api.Header{TOS: -1, Len: -1, Id: -1, Flags: -1, Off: -1, TTL: -1, Proto: -1})
	if !bytes.Equal(ones, summed([]byte{0x45, 255, 255, 255, 255, 255, 255, 255, 255, 255, 0, 0, 0, 0, 0, 0, 0, 0, 0, 0}, 20)) {
		t.Errorf("of numbers below 0: %x", ones)
	}
}

// P20.3
func TestParseOfBuild(t *testing.T) {
	r := rand.New(rand.NewSource(1))
	for range 300 {
		h := api.Header{IHL: 5, TOS: r.Intn(256), Len: 20 + r.Intn(100), Id: r.Intn(65536), Flags: r.Intn(8), Off: r.Intn(8192), TTL: r.Intn(256), Proto: r.Intn(256), Src: r.Uint32(), Dst: r.Uint32()}
		rest := make([]byte, h.Len-20)
		r.Read(rest)
		b := ip.Build(h)
		if len(b) != 20 || net(b) != 0 {
			t.Fatalf("Build(%v): %x", h, b)
		}
		h.Sum = int(b[10])<<8 | int(b[11])
		got, behind, reason := ip.Parse(append(b, rest...))
		if got != h || reason != 0 || !bytes.Equal(behind, rest) {
			t.Fatalf("%v comes back as %v, %d", h, got, reason)
		}
	}
}

// R2
func TestParseSharesNothing(t *testing.T) {
	b := packet(0, 10)
	_, rest, _ := ip.Parse(b)
	rest = append(rest[:1], 99)
	rest[0] = 99
	if !bytes.Equal(b, packet(0, 10)) {
		t.Errorf("%x", b)
	}
}
