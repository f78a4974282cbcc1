package sum_test

import (
	"hash/crc32"
	"math/rand"
	"testing"

	"goit/sum"
)

// plainPart is the promise of Part, word by word, in wide numbers.
func plainPart(s uint64, b []byte) uint32 {
	fold := func(x uint64) uint64 {
		for x > 0xffff {
			x = x>>16 + x&0xffff
		}
		return x
	}
	s = fold(s)
	for i := 0; i < len(b); i += 2 {
		x := uint64(b[i]) << 8
		if i+1 < len(b) {
			x |= uint64(b[i+1])
		}
		s = fold(s + x)
	}
	return uint32(s)
}

func someBytes(r *rand.Rand, n int) []byte {
	b := make([]byte, n)
	r.Read(b)
	return b
}

// P1.1
func TestPart(t *testing.T) {
	for _, x := range []struct {
		s    uint32
		b    []byte
		want uint32
	}{
		{0, nil, 0}, {5, nil, 5}, {0xffff, nil, 0xffff}, {0x10000, nil, 1}, {0x1ffff, nil, 1}, {0xffffffff, nil, 0xffff},
		{0, []byte{1}, 0x100}, {0, []byte{1, 2}, 0x102}, {0, []byte{1, 2, 3}, 0x402},
		{0xffff, []byte{0, 1}, 1}, {0xffff, []byte{0, 0}, 0xffff}, {0xffff, []byte{0xff, 0xff}, 0xffff},
		{0xffffffff, []byte{1}, 0x100}, {0xffff0000, []byte{0xff, 0xff}, 0xffff},
		{0x8000, []byte{0x80, 0}, 1},
	} {
		if got := sum.Part(x.s, x.b); got != x.want {
			t.Errorf("Part(%x, %x) = %x, not %x", x.s, x.b, got, x.want)
		}
	}
}

// P1.1
func TestPartOfManyBytes(t *testing.T) {
	r := rand.New(rand.NewSource(1))
	for n := range 200 {
		s, b := r.Uint32(), someBytes(r, n)
		if got, want := sum.Part(s, b), plainPart(uint64(s), b); got != want {
			t.Fatalf("Part(%x, %x) = %x, not %x", s, b, got, want)
		}
	}
	all := make([]byte, 1<<18)
	for i := range all {
		all[i] = 0xff
	}
	if got := sum.Part(1, all); got != 1 {
		t.Errorf("Part(1, ones) = %x", got)
	}
}

// P1.1
func TestFoldAndNet(t *testing.T) {
	for s, want := range map[uint32]uint16{0: 0xffff, 1: 0xfffe, 0xffff: 0, 0x10000: 0xfffe, 0x12345678: ^uint16(0x68ac), 0xffffffff: 0} {
		if got := sum.Fold(s); got != want {
			t.Errorf("Fold(%x) = %x, not %x", s, got, want)
		}
	}
	header := []byte{0x45, 0, 0, 0x73, 0, 0, 0x40, 0, 0x40, 0x11, 0, 0, 0xc0, 0xa8, 0, 1, 0xc0, 0xa8, 0, 0xc7}
	if got := sum.Net(header); got != 0xb861 {
		t.Errorf("Net(header) = %x", got)
	}
	if sum.Net(nil) != 0xffff || sum.Net([]byte{1}) != 0xfeff || sum.Net([]byte{0xff, 0xff, 0, 1}) != 0xfffe {
		t.Error("Net of few bytes")
	}
}

// P1.2
func TestFix(t *testing.T) {
	for _, x := range [][4]uint16{{0xb861, 0x4011, 0x3f11, 0xb961}, {0xdd2f, 0x5555, 0x3285, 0}, {0, 0, 0, 0}, {0xffff, 0, 0, 0}, {0xffff, 0xffff, 0, 0xffff}, {0, 0xffff, 0xffff, 0}} {
		if got := sum.Fix(x[0], x[1], x[2]); got != x[3] {
			t.Errorf("Fix(%x, %x, %x) = %x, not %x", x[0], x[1], x[2], got, x[3])
		}
	}
	r := rand.New(rand.NewSource(2))
	for range 2000 {
		s, old, now := uint16(r.Uint32()), uint16(r.Uint32()), uint16(r.Uint32())
		want := sum.Fold(uint32(^s) + uint32(^old) + uint32(now))
		if got := sum.Fix(s, old, now); got != want {
			t.Fatalf("Fix(%x, %x, %x) = %x, not %x", s, old, now, got, want)
		}
	}
}

// P1.3
func TestCrc(t *testing.T) {
	for text, want := range map[string]uint32{"": 0, "a": 0xc1d04330, "123456789": 0xe3069283, string(make([]byte, 32)): 0x8a9136aa} {
		if got := sum.Crc([]byte(text)); got != want {
			t.Errorf("Crc(%q) = %x, not %x", text, got, want)
		}
	}
	r := rand.New(rand.NewSource(3))
	castagnoli := crc32.MakeTable(crc32.Castagnoli)
	for n := range 100 {
		b := someBytes(r, n)
		if got, want := sum.Crc(b), crc32.Checksum(b, castagnoli); got != want {
			t.Fatalf("Crc(%x) = %x, not %x", b, got, want)
		}
	}
}

// P1.3
func TestMix(t *testing.T) {
	plain := func(seed uint32, b []byte) uint32 {
		const word = 1 << 32
		h := uint64(seed ^ 0x811c9dc5)
		for _, x := range b {
			h = (h ^ uint64(x)) * 0x01000193 % word
		}
		h ^= h >> 15
		h = h * 0x85ebca6b % word
		return uint32(h ^ h>>13)
	}
	r := rand.New(rand.NewSource(4))
	for n := range 60 {
		seed, b := r.Uint32(), someBytes(r, n)
		if n < 8 {
			seed = uint32(n)
		}
		if got, want := sum.Mix(seed, b), plain(seed, b); got != want {
			t.Fatalf("Mix(%x, %x) = %x, not %x", seed, b, got, want)
		}
	}
	if sum.Mix(1, []byte{0, 0, 0, 7}) == sum.Mix(2, []byte{0, 0, 0, 7}) {
		t.Error("the seed does not count")
	}
}

// P1.4
func TestWhatFollows(t *testing.T) {
	r := rand.New(rand.NewSource(5))
	for n := range 60 {
		b := someBytes(r, 2*n+4)
		s := sum.Net(b)
		if got := sum.Net(append(append([]byte{}, b...), byte(s>>8), byte(s))); got != 0 {
			t.Errorf("Net with the sum behind = %x", got)
		}
		cut := 2 * r.Intn(n+2)
		if sum.Fold(sum.Part(sum.Part(0, b[:cut]), b[cut:])) != s {
			t.Errorf("Net in two parts, %d first", cut)
		}
		at, now := 2*r.Intn(n+2), uint16(r.Uint32())
		old := uint16(b[at])<<8 | uint16(b[at+1])
		fixed := sum.Fix(s, old, now)
		b[at], b[at+1] = byte(now>>8), byte(now)
		if want := sum.Net(b); fixed%0xffff != want%0xffff {
			t.Errorf("Fix = %x, Net = %x", fixed, want)
		}
	}
}

// P1.4
func TestCrcTellsChanges(t *testing.T) {
	r := rand.New(rand.NewSource(6))
	for range 500 {
		b := someBytes(r, 4+r.Intn(30))
		was, at := sum.Crc(b), r.Intn(len(b)-3)
		change := someBytes(r, 4)
		change[r.Intn(4)] |= 1
		for i, x := range change {
			b[at+i] ^= x
		}
		if sum.Crc(b) == was {
			t.Fatalf("a change at %d is not told", at)
		}
	}
}

// R2
func TestNothingIsChanged(t *testing.T) {
	b := []byte{1, 2, 3, 4, 5}
	sum.Net(b[:3])
	sum.Part(7, b[:3])
	sum.Crc(b[:3])
	sum.Mix(7, b[:3])
	if string(b) != "\x01\x02\x03\x04\x05" {
		t.Errorf("%x", b)
	}
}
