package tuple_test

import (
	"bytes"
	"encoding/binary"
	"math/rand"
	"slices"
	"testing"

	"goit/api"
	"goit/octet"
	"goit/sum"
	"goit/tuple"
)

var one = api.Tuple{Src: 0x0a000001, Dst: 0x0a000002, Proto: api.TCP, Sport: 5, Dport: 80}

func some(r *rand.Rand) api.Tuple {
	t := api.Tuple{Src: r.Uint32(), Dst: r.Uint32(), Proto: api.TCP, Sport: r.Intn(65536), Dport: r.Intn(65536)}
	if r.Intn(2) == 0 {
		t.Proto = api.UDP
	}
	return t
}

// with is the first tuple with one thing changed.
func with(change func(t *api.Tuple)) api.Tuple {
	t := one
	change(&t)
	return t
}

// P7.1
func TestMay(t *testing.T) {
	good := []api.Tuple{one, with(func(t *api.Tuple) { t.Proto = api.UDP }), with(func(t *api.Tuple) { t.Sport, t.Dport = 0, 65535 }), with(func(t *api.Tuple) { t.Sport, t.Dport = 65535, 0 }), {Proto: api.TCP}, {Src: 1<<32 - 1, Dst: 1<<32 - 1, Proto: api.UDP}}
	bad := []api.Tuple{{}, with(func(t *api.Tuple) { t.Proto = 1 }), with(func(t *api.Tuple) { t.Proto = -6 }), with(func(t *api.Tuple) { t.Proto = 256 + 6 }),
		with(func(t *api.Tuple) { t.Sport = -1 }), with(func(t *api.Tuple) { t.Sport = 65536 }), with(func(t *api.Tuple) { t.Dport = -1 }), with(func(t *api.Tuple) { t.Dport = 65536 })}
	for _, x := range good {
		if !tuple.May(x) {
			t.Errorf("%v may not be", x)
		}
	}
	for _, x := range bad {
		if tuple.May(x) {
			t.Errorf("%v may be", x)
		}
	}
}

// P7.1
func TestLess(t *testing.T) {
	rising := []api.Tuple{{}, {Dport: 1}, {Sport: 1}, {Sport: 1, Dport: 1}, {Proto: 1}, {Proto: 6, Dport: 2}, {Proto: 17}, {Dst: 1}, {Dst: 1 << 31, Sport: 9}, {Src: 1}, {Src: 1, Dport: 3}, {Src: 1 << 31}}
	for i, a := range rising {
		for j, b := range rising {
			if tuple.Less(a, b) != (i < j) {
				t.Errorf("Less(%v, %v) is %v", a, b, i >= j)
			}
		}
	}
}

// P7.1
func TestTurn(t *testing.T) {
	if got := tuple.Turn(one); got != (api.Tuple{Src: 0x0a000002, Dst: 0x0a000001, Proto: api.TCP, Sport: 80, Dport: 5}) {
		t.Errorf("%v", got)
	}
	if tuple.Turn(tuple.Turn(one)) != one {
		t.Error("turned twice it is another")
	}
}

func bytesOf(x api.Tuple) []byte {
	b := binary.BigEndian.AppendUint32(nil, x.Src)
	b = append(binary.BigEndian.AppendUint32(b, x.Dst), byte(x.Proto))
	return binary.BigEndian.AppendUint16(binary.BigEndian.AppendUint16(b, uint16(x.Sport)), uint16(x.Dport))
}

// P7.2, P7.4
func TestWriteAndRead(t *testing.T) {
	r := rand.New(rand.NewSource(1))
	for range 100 {
		x := some(r)
		var w octet.Writer
		w.U8(9)
		tuple.Write(&w, x)
		if !bytes.Equal(w.Bytes()[1:], bytesOf(x)) {
			t.Fatalf("Write(%v): %x", x, w.Bytes())
		}
		if got, ok := tuple.Read(octet.NewReader(bytesOf(x))); !ok || got != x {
			t.Fatalf("Read of just its bytes: %v, %v", got, ok)
		}
		w.U8(7)
		rd := octet.NewReader(w.Bytes()[1:])
		if got, ok := tuple.Read(rd); !ok || got != x || rd.Left() != 1 {
			t.Fatalf("Read: %v, %v", got, ok)
		}
		if got, want := tuple.Hash(x), sum.Mix(0, bytesOf(x)); got != want {
			t.Fatalf("Hash(%v) = %x", x, got)
		}
	}
}

// P7.2
func TestReadRefuses(t *testing.T) {
	good := bytesOf(one)
	for n := range good {
		if got, ok := tuple.Read(octet.NewReader(good[:n])); ok || got != (api.Tuple{}) {
			t.Errorf("of %d bytes: %v, %v", n, got, ok)
		}
	}
	bad := bytes.Clone(good)
	bad[8] = 1
	if got, ok := tuple.Read(octet.NewReader(bad)); ok || got != (api.Tuple{}) {
		t.Errorf("of another protocol: %v, %v", got, ok)
	}
	if got, ok := tuple.Read(nil); ok || got != (api.Tuple{}) {
		t.Errorf("of no reader: %v, %v", got, ok)
	}
	tuple.Write(nil, one)
}

// P7.3
func TestAddr(t *testing.T) {
	for a, s := range map[uint32]string{0: "0.0.0.0", 1: "0.0.0.1", 0x0a0000ff: "10.0.0.255", 0xc0a80a64: "192.168.10.100", 1<<32 - 1: "255.255.255.255"} {
		if got := tuple.Addr(a); got != s {
			t.Errorf("Addr(%x) = %q", a, got)
		}
		if got, ok := tuple.ParseAddr(s); !ok || got != a {
			t.Errorf("ParseAddr(%q) = %x, %v", s, got, ok)
		}
	}
	for _, s := range []string{"", ".", "...", "1", "1.2.3", "1.2.3.", ".1.2.3", "1.2.3.4.", "1.2.3.4.5", "0.1.2.3.4", "01.2.3.4", "1.2.3.00", "256.1.1.1", "1.2.3.256", "1.2.3.-4", "1.2.3.+4", "-0.1.2.3", " 1.2.3.4", "1.2.3.4 ", "1.2.3.x", "1.2..4", "0x1.2.3.4", "1.2.3.1_0", "99999999999999999999.1.1.1"} {
		if got, ok := tuple.ParseAddr(s); ok || got != 0 {
			t.Errorf("ParseAddr(%q) = %x, %v", s, got, ok)
		}
	}
}

// P7.3
func TestText(t *testing.T) {
	for s, x := range map[string]api.Tuple{
		"tcp 10.0.0.1:5>10.0.0.2:80":                 one,
		"udp 255.255.255.255:65535>0.0.0.0:0":        {Src: 1<<32 - 1, Proto: api.UDP, Sport: 65535},
		"? 0.0.0.0:0>0.0.0.0:0":                      {},
		"? 0.0.0.1:-3>0.0.0.2:70000":                 {Src: 1, Dst: 2, Proto: 5, Sport: -3, Dport: 70000},
		"tcp 0.0.0.0:-9223372036854775808>0.0.0.0:1": {Proto: api.TCP, Sport: -1 << 63, Dport: 1},
	} {
		if got := tuple.Text(x); got != s {
			t.Errorf("Text(%v) = %q, not %q", x, got, s)
		}
		got, ok := tuple.Parse(s)
		if ok != tuple.May(x) || (ok && got != x) || (!ok && got != api.Tuple{}) {
			t.Errorf("Parse(%q) = %v, %v", s, got, ok)
		}
	}
}

// P7.3
func TestParseRefuses(t *testing.T) {
	for _, s := range []string{"", "tcp", "tcp ", "tcp 10.0.0.1:5", "tcp 10.0.0.1:5>", "tcp 10.0.0.1:5>10.0.0.2", "tcp 10.0.0.1:5>10.0.0.2:", "tcp 10.0.0.1>10.0.0.2:80", "10.0.0.1:5>10.0.0.2:80",
		"TCP 10.0.0.1:5>10.0.0.2:80", "icmp 10.0.0.1:5>10.0.0.2:80", " tcp 10.0.0.1:5>10.0.0.2:80", "tcp  10.0.0.1:5>10.0.0.2:80", "tcp 10.0.0.1:5>10.0.0.2:80 ", "tcp 10.0.0.1:5 >10.0.0.2:80",
		"tcp 10.0.0.1:05>10.0.0.2:80", "tcp 10.0.0.1:5>10.0.0.2:080", "tcp 10.0.0.1:65536>10.0.0.2:80", "tcp 10.0.0.1:5>10.0.0.2:65536", "tcp 10.0.0.1:-1>10.0.0.2:80", "tcp 10.0.0.1:-0>10.0.0.2:80", "tcp 10.0.0.1:+5>10.0.0.2:80",
		"tcp 10.0.0.01:5>10.0.0.2:80", "tcp 10.0.0.1:5>10.0.0:80", "tcp 10.0.0.1:5>10.0.0.2:80>", "tcp 10.0.0.1:5>10.0.0.2:80:1", "tcp 10.0.0.1:5<10.0.0.2:80", "tcp 10.0.0.1:99999999999999999999>10.0.0.2:80", "? 10.0.0.1:5>10.0.0.2:80", "tcp\t10.0.0.1:5>10.0.0.2:80"} {
		if got, ok := tuple.Parse(s); ok || got != (api.Tuple{}) {
			t.Errorf("Parse(%q) = %v, %v", s, got, ok)
		}
	}
}

// P7.4
func TestParseOfText(t *testing.T) {
	r := rand.New(rand.NewSource(2))
	var l []api.Tuple
	for range 200 {
		x := some(r)
		if got, ok := tuple.Parse(tuple.Text(x)); !ok || got != x {
			t.Fatalf("%v comes back as %v, %v", x, got, ok)
		}
		l = append(l, x)
	}
	byBytes := slices.Clone(l)
	slices.SortFunc(byBytes, func(a, b api.Tuple) int { return bytes.Compare(bytesOf(a), bytesOf(b)) })
	if !slices.IsSortedFunc(byBytes, func(a, b api.Tuple) int {
		if tuple.Less(a, b) {
			return -1
		}
		return 1
	}) {
		t.Error("Less has another order than the bytes")
	}
}
