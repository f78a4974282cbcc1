package frame_test

import (
	"bytes"
	"encoding/binary"
	"hash/crc32"
	"math/rand"
	"testing"

	"goit/api"
	"goit/frame"
)

var castagnoli = crc32.MakeTable(crc32.Castagnoli)

// plain is the form of a frame, written by the library alone; length is what its head says.
func plain(kind, version byte, length int, body []byte) []byte {
	b := append([]byte("goit"), kind, version, byte(length>>8), byte(length))
	b = binary.BigEndian.AppendUint32(b, crc32.Checksum(b, castagnoli))
	b = binary.BigEndian.AppendUint32(b, crc32.Checksum(body, castagnoli))
	return append(b, body...)
}

func put(t *testing.T, f api.Frame) []byte {
	t.Helper()
	b, e := frame.Put(f)
	if e != api.OK {
		t.Fatalf("Put: %d", e)
	}
	return b
}

// P4.1
func TestPut(t *testing.T) {
	for _, f := range []api.Frame{{}, {Kind: 1, Version: 3}, {Kind: 255, Version: 255, Body: []byte("body")}, {Kind: 0, Version: 1, Body: make([]byte, api.MaxBody)}} {
		want := plain(byte(f.Kind), byte(f.Version), len(f.Body), f.Body)
		if got := put(t, f); !bytes.Equal(got, want) {
			t.Errorf("Put(%d, %d): %x, not %x", f.Kind, f.Version, got, want)
		}
	}
	long := make([]byte, api.MaxBody+1)
	for _, x := range []struct {
		f    api.Frame
		want api.Errno
	}{
		{api.Frame{Kind: -1}, api.ErrArg}, {api.Frame{Kind: 256}, api.ErrArg}, {api.Frame{Version: -1}, api.ErrArg}, {api.Frame{Version: 256}, api.ErrArg},
		{api.Frame{Body: long}, api.ErrLong}, {api.Frame{Kind: 256, Body: long}, api.ErrArg},
	} {
		if b, e := frame.Put(x.f); e != x.want || len(b) != 0 {
			t.Errorf("Put(%d, %d, %d bytes): %d, not %d", x.f.Kind, x.f.Version, len(x.f.Body), e, x.want)
		}
	}
}

// P4.1
func TestTake(t *testing.T) {
	body := []byte("body")
	for _, f := range []api.Frame{{}, {Kind: 1, Version: 3}, {Kind: 200, Version: 9, Body: body}, {Kind: 3, Body: make([]byte, api.MaxBody)}} {
		b := append(put(t, f), "behind"...)
		got, n, e := frame.Take(b)
		if e != api.OK || n != len(b)-6 || got.Kind != f.Kind || got.Version != f.Version || !bytes.Equal(got.Body, f.Body) {
			t.Errorf("Take: %v, %d bytes, %d", got, n, e)
		}
	}
}

// changed is b with the byte at a place changed.
func changed(b []byte, at int) []byte {
	b = bytes.Clone(b)
	b[at] ^= 0x10
	return b
}

// P4.1
func TestTakeRefuses(t *testing.T) {
	good := plain(1, 3, 4, []byte("body"))
	long := plain(1, 3, api.MaxBody+1, make([]byte, api.MaxBody+1))
	for name, x := range map[string]struct {
		b    []byte
		want api.Errno
	}{
		"nothing":                         {nil, api.ErrShort},
		"fewer than a head":               {good[:15], api.ErrShort},
		"no goit":                         {changed(good, 0), api.ErrForm},
		"no goit at its end":              {changed(good, 3), api.ErrForm},
		"another kind":                    {changed(good, 4), api.ErrSum},
		"another version":                 {changed(good, 5), api.ErrSum},
		"another length":                  {changed(good, 6), api.ErrSum},
		"another sum of the head":         {changed(good, 8), api.ErrSum},
		"a length above":                  {long, api.ErrLong},
		"a length above, and its sum bad": {changed(long, 9), api.ErrSum},
		"a length above, and not whole":   {long[:20], api.ErrLong},
		"no body":                         {good[:16], api.ErrShort},
		"not all of the body":             {good[:19], api.ErrShort},
		"another sum of the body":         {changed(good, 12), api.ErrSum},
		"no body, and its sum bad":        {changed(good, 12)[:19], api.ErrShort},
		"another body":                    {changed(good, 17), api.ErrSum},
		"another end":                     {changed(good, 19), api.ErrSum},
	} {
		f, n, e := frame.Take(x.b)
		if e != x.want || n != 0 || !frame.Same(f, api.Frame{}) {
			t.Errorf("%s: %d, not %d (%v, %d)", name, e, x.want, f, n)
		}
	}
}

// P4.2
func TestScan(t *testing.T) {
	a, b, c := put(t, api.Frame{Kind: 1, Version: 1, Body: []byte("a")}), put(t, api.Frame{Kind: 2, Version: 2}), put(t, api.Frame{Kind: 3, Version: 3, Body: []byte("ccc")})
	all := bytes.Join([][]byte{a, b, c}, nil)
	for name, x := range map[string]struct {
		b      []byte
		frames int
		bytes  int
		want   api.Errno
	}{
		"nothing":        {nil, 0, 0, api.OK},
		"all":            {all, 3, len(all), api.OK},
		"a beginning":    {all[:len(all)-1], 2, len(a) + len(b), api.ErrShort},
		"a changed one":  {changed(all, len(a)+4), 1, len(a), api.ErrSum},
		"another behind": {append(bytes.Clone(a), "this is no frame at all"...), 1, len(a), api.ErrForm},
		"no frame":       {[]byte("this is no frame at all"), 0, 0, api.ErrForm},
	} {
		frames, n, e := frame.Scan(x.b)
		if len(frames) != x.frames || n != x.bytes || e != x.want {
			t.Errorf("%s: %d frames, %d bytes, %d", name, len(frames), n, e)
		}
	}
}

// P4.2
func TestSame(t *testing.T) {
	f := api.Frame{Kind: 1, Version: 2, Body: []byte("b")}
	for _, x := range []struct {
		a, b api.Frame
		want bool
	}{
		{f, f, true}, {api.Frame{Body: nil}, api.Frame{Body: []byte{}}, true},
		{f, api.Frame{Kind: 2, Version: 2, Body: []byte("b")}, false}, {f, api.Frame{Kind: 1, Version: 1, Body: []byte("b")}, false},
		{f, api.Frame{Kind: 1, Version: 2, Body: []byte("c")}, false}, {f, api.Frame{Kind: 1, Version: 2}, false},
	} {
		if frame.Same(x.a, x.b) != x.want || frame.Same(x.b, x.a) != x.want {
			t.Errorf("Same(%v, %v) is not %v", x.a, x.b, x.want)
		}
	}
}

// R2
func TestFramesShareNothing(t *testing.T) {
	body := []byte("body")
	b := put(t, api.Frame{Kind: 1, Body: body[:2]})
	b = append(b, put(t, api.Frame{Kind: 2, Body: body})...)
	frames, _, _ := frame.Scan(b)
	frames[0].Body = append(frames[0].Body, "zzzzzzzzzzzzzzzzzzzzzzzzz"...)
	f, _, _ := frame.Take(b)
	f.Body[0] = 'x'
	again, n, e := frame.Scan(b)
	if e != api.OK || n != len(b) || string(again[0].Body) != "bo" || string(again[1].Body) != "body" || string(frames[1].Body) != "body" || string(body) != "body" {
		t.Errorf("%q", b)
	}
}

func someFrames(r *rand.Rand) []api.Frame {
	l := make([]api.Frame, r.Intn(6))
	for i := range l {
		l[i] = api.Frame{Kind: r.Intn(256), Version: r.Intn(256), Body: make([]byte, r.Intn(30))}
		r.Read(l[i].Body)
	}
	return l
}

// P4.3
func TestScanOfWhatWasPut(t *testing.T) {
	r := rand.New(rand.NewSource(1))
	for range 100 {
		l := someFrames(r)
		var b []byte
		ends := []int{0}
		for _, f := range l {
			b = append(b, put(t, f)...)
			ends = append(ends, len(b))
		}
		whole := 0
		for cut := range len(b) + 1 {
			for whole < len(l) && ends[whole+1] <= cut {
				whole++
			}
			frames, n, e := frame.Scan(b[:cut])
			if len(frames) != whole || n != ends[whole] || (e == api.OK) != (n == cut) {
				t.Fatalf("of %d bytes: %d frames, %d bytes, %d", cut, len(frames), n, e)
			}
			for i, f := range frames {
				if !frame.Same(f, l[i]) {
					t.Fatalf("frame %d: %v", i, f)
				}
			}
		}
	}
}

// P4.3
func TestChangesAreTold(t *testing.T) {
	r := rand.New(rand.NewSource(2))
	for range 200 {
		b := put(t, api.Frame{Kind: r.Intn(256), Version: r.Intn(256), Body: []byte("a body of some length")})
		for at := range b {
			c := bytes.Clone(b)
			c[at] ^= byte(1 + r.Intn(255))
			if _, _, e := frame.Take(c); e == api.OK {
				t.Fatalf("a change at %d is not told", at)
			}
		}
		at := 16 + r.Intn(len(b)-19)
		if r.Intn(2) == 0 {
			at = r.Intn(5)
		}
		was := bytes.Clone(b)
		for i := range 4 {
			b[at+i] ^= byte(r.Intn(256))
		}
		if _, _, e := frame.Take(b); e == api.OK && !bytes.Equal(b, was) {
			t.Fatalf("a change of four bytes at %d is not told", at)
		}
	}
}
