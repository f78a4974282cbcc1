package ports_test

import (
	"math/rand"
	"testing"

	"goit/api"
	"goit/ip"
	"goit/ports"
	"goit/tuple"
)

// packet is one of a protocol with this behind the header.
func packet(proto int, body []byte) []byte {
	return packetOf(api.Header{Len: 20 + len(body), TTL: 9, Proto: proto, Src: 0x0a000001, Dst: 0x0a000002}, body)
}

func packetOf(h api.Header, body []byte) []byte { return append(ip.Build(h), body...) }

// tcp is a TCP header, of so many words, with these flags, and bytes up to n.
func tcp(words, flags byte, n int) []byte {
	b := make([]byte, max(n, 20))
	b[0], b[1], b[2], b[3], b[12], b[13] = 1, 2, 0xff, 0xfe, words<<4|0xf, flags
	return b[:n]
}

// udp is a UDP header that says this length, and bytes up to n.
func udp(length, n int) []byte {
	b := make([]byte, max(n, 8))
	b[0], b[1], b[2], b[3], b[4], b[5] = 1, 2, 0xff, 0xfe, byte(length>>8), byte(length)
	return b[:n]
}

func tup(proto int) api.Tuple {
	return api.Tuple{Src: 0x0a000001, Dst: 0x0a000002, Proto: proto, Sport: 258, Dport: 65534}
}

// P21.1, P21.3
func TestTuple(t *testing.T) {
	for name, x := range map[string]struct {
		proto int
		body  []byte
	}{
		"tcp": {api.TCP, tcp(5, 0, 20)}, "tcp with bytes behind": {api.TCP, tcp(5, 0x12, 50)}, "tcp with options": {api.TCP, tcp(15, 0, 60)},
		"udp": {api.UDP, udp(8, 8)}, "udp with bytes": {api.UDP, udp(300, 300)}, "udp with more bytes": {api.UDP, udp(9, 300)},
	} {
		b := packet(x.proto, x.body)
		want, _, _ := ip.Parse(b)
		got, h, reason := ports.Tuple(append(b, 9))
		if got != tup(x.proto) || h != want || reason != 0 || !tuple.May(got) {
			t.Errorf("%s: %v, %v, %d", name, got, h, reason)
		}
	}
}

// P21.1
func TestTupleRefuses(t *testing.T) {
	fragment := func(flags, off, proto int) []byte {
		return packetOf(api.Header{Len: 40, TTL: 9, Proto: proto, Flags: flags, Off: off}, tcp(5, 0, 20))
	}
	badSum := packet(api.TCP, tcp(5, 0, 20))
	badSum[10] ^= 1
	behind := append(packetOf(api.Header{Len: 39, TTL: 9, Proto: api.TCP}, tcp(5, 0, 19)), 0, 0, 0)
	for name, x := range map[string]struct {
		b    []byte
		want int
	}{
		"nothing":                      {nil, api.NShort},
		"another version":              {append([]byte{0x65}, badSum[1:]...), api.NVersion},
		"a bad sum":                    {badSum, api.NSum},
		"not whole":                    {packet(api.TCP, tcp(5, 0, 20))[:39], api.NLength},
		"more fragments":               {fragment(1, 0, api.TCP), api.NFragment},
		"a later fragment":             {fragment(0, 1, api.TCP), api.NFragment},
		"a fragment of another":        {fragment(3, 0, 1), api.NFragment},
		"not to be parted":             {fragment(2, 0, api.TCP), 0},
		"another protocol":             {packet(1, tcp(5, 0, 20)), api.NProto},
		"protocol 0":                   {packet(0, nil), api.NProto},
		"tcp of 19":                    {packet(api.TCP, tcp(5, 0, 19)), api.NPorts},
		"tcp of 19, and bytes behind":  {behind, api.NPorts},
		"tcp of nothing":               {packet(api.TCP, nil), api.NPorts},
		"tcp of 4 words":               {packet(api.TCP, tcp(4, 0, 40)), api.NPorts},
		"tcp of 6 words, 5 there":      {packet(api.TCP, tcp(6, 0, 23)), api.NPorts},
		"tcp of 6 words":               {packet(api.TCP, tcp(6, 0, 24)), 0},
		"udp of 7":                     {packet(api.UDP, udp(8, 7)), api.NPorts},
		"udp of nothing":               {packet(api.UDP, nil), api.NPorts},
		"udp that says 7":              {packet(api.UDP, udp(7, 9)), api.NPorts},
		"udp that says 0":              {packet(api.UDP, udp(0, 9)), api.NPorts},
		"udp that says more":           {packet(api.UDP, udp(10, 9)), api.NPorts},
		"udp that says very much more": {packet(api.UDP, udp(0x109, 9)), api.NPorts},
	} {
		got, h, reason := ports.Tuple(x.b)
		if reason != x.want || (reason != 0 && (got != api.Tuple{} || h != api.Header{})) {
			t.Errorf("%s: %d, not %d", name, reason, x.want)
		}
	}
}

// P21.2
func TestEnds(t *testing.T) {
	for flags := range 256 {
		b := packet(api.TCP, tcp(5, byte(flags), 20))
		if got := ports.Ends(tup(api.TCP), b); got != (flags&5 != 0) {
			t.Errorf("flags %x: %v", flags, got)
		}
	}
	fin := packet(api.TCP, tcp(5, 1, 20))
	other := tup(api.TCP)
	other.Sport++
	udpTuple := tup(api.UDP)
	likeFin := udp(20, 20)
	likeFin[13] = 0xff
	noSum := append([]byte{}, fin...)
	noSum[11] ^= 1
	for name, x := range map[string]struct {
		t api.Tuple
		b []byte
	}{
		"another tuple": {other, fin}, "turned": {tuple.Turn(tup(api.TCP)), fin}, "none": {api.Tuple{}, fin}, "udp": {udpTuple, packet(api.UDP, likeFin)}, "the other protocol": {udpTuple, fin},
		"nothing": {tup(api.TCP), nil}, "nothing of none": {api.Tuple{}, nil}, "a bad sum": {tup(api.TCP), noSum}, "four words": {tup(api.TCP), packet(api.TCP, tcp(4, 1, 20))},
	} {
		if ports.Ends(x.t, x.b) {
			t.Errorf("%s ends it", name)
		}
	}
	long := make([]byte, 4) // an option: the flags stand four bytes further
	b := packetOf(api.Header{Len: 44, TTL: 9, Proto: api.TCP, Src: 0x0a000001, Dst: 0x0a000002}, append(long, tcp(5, 4, 20)...))
	b[0], b[10], b[11] = 0x46, 0, 0
	s := 0
	for i := 0; i < 24; i += 2 {
		s += int(b[i])<<8 | int(b[i+1])
	}
	s = ^(s>>16 + s&0xffff)
	b[10], b[11] = byte(s>>8), byte(s)
	if !ports.Ends(tup(api.TCP), b) {
		t.Error("behind options it does not end")
	}
}

// P21.3, R3
func TestWhateverComes(t *testing.T) {
	r := rand.New(rand.NewSource(1))
	for range 2000 {
		body := make([]byte, r.Intn(40))
		r.Read(body)
		b := packet([]int{api.TCP, api.UDP, r.Intn(256)}[r.Intn(3)], body)
		got, _, reason := ports.Tuple(b)
		if (reason == 0) != tuple.May(got) {
			t.Fatalf("%x: %v, %d", b, got, reason)
		}
		ports.Ends(got, b)
	}
}
