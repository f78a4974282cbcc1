package octet_test

import (
	"bytes"
	"math"
	"math/rand"
	"testing"

	"goit/api"
	"goit/octet"
)

// P2.1
func TestWriter(t *testing.T) {
	for name, x := range map[string]struct {
		put  func(w *octet.Writer)
		want []byte
	}{
		"nothing":        {func(w *octet.Writer) {}, nil},
		"U8":             {func(w *octet.Writer) { w.U8(7) }, []byte{7}},
		"U8 above":       {func(w *octet.Writer) { w.U8(0x1fe) }, []byte{0xfe}},
		"U8 below":       {func(w *octet.Writer) { w.U8(-1) }, []byte{0xff}},
		"U16":            {func(w *octet.Writer) { w.U16(258) }, []byte{1, 2}},
		"U16 above":      {func(w *octet.Writer) { w.U16(0x10203) }, []byte{2, 3}},
		"U16 below":      {func(w *octet.Writer) { w.U16(-2) }, []byte{0xff, 0xfe}},
		"U32":            {func(w *octet.Writer) { w.U32(0x01020304) }, []byte{1, 2, 3, 4}},
		"I64":            {func(w *octet.Writer) { w.I64(0x0102030405060708) }, []byte{1, 2, 3, 4, 5, 6, 7, 8}},
		"I64 below":      {func(w *octet.Writer) { w.I64(-2) }, []byte{255, 255, 255, 255, 255, 255, 255, 254}},
		"I64 least":      {func(w *octet.Writer) { w.I64(math.MinInt64) }, []byte{128, 0, 0, 0, 0, 0, 0, 0}},
		"Raw":            {func(w *octet.Writer) { w.Raw([]byte("xyz")) }, []byte("xyz")},
		"Raw of nothing": {func(w *octet.Writer) { w.Raw(nil) }, nil},
		"all":            {func(w *octet.Writer) { w.U16(1); w.Raw([]byte{9}); w.U8(2); w.U32(3) }, []byte{0, 1, 9, 2, 0, 0, 0, 3}},
	} {
		var w octet.Writer
		x.put(&w)
		if got := w.Bytes(); !bytes.Equal(got, x.want) || w.Len() != len(x.want) {
			t.Errorf("%s: %x, %d bytes", name, got, w.Len())
		}
	}
}

// P2.1, R2
func TestWriterKeepsToItself(t *testing.T) {
	var w octet.Writer
	b := []byte{1, 2, 3, 4}
	w.Raw(b[:2])
	b[0] = 9
	got := w.Bytes()
	got[1] = 9
	w.U8(5)
	if got := w.Bytes(); !bytes.Equal(got, []byte{1, 2, 5}) || !bytes.Equal(b, []byte{9, 2, 3, 4}) {
		t.Errorf("%x, %x", got, b)
	}
}

// P2.2
func TestReader(t *testing.T) {
	r := octet.NewReader([]byte{200, 1, 2, 0x80, 0, 0, 1, 255, 255, 255, 255, 255, 255, 255, 254, 'x', 'y', 7})
	if r.Left() != 18 || r.End() != api.ErrForm {
		t.Errorf("at first: %d left, end %d", r.Left(), r.End())
	}
	if a, b, c, d := r.U8(), r.U16(), r.U32(), r.I64(); a != 200 || b != 258 || c != 0x80000001 || d != -2 {
		t.Errorf("%d %d %x %d", a, b, c, d)
	}
	if r.Left() != 3 || len(r.Raw(-1)) != 0 || len(r.Raw(0)) != 0 || r.Left() != 3 || r.End() != api.ErrForm {
		t.Error("to take nothing takes something")
	}
	if got := r.Raw(2); string(got) != "xy" || r.End() != api.ErrForm {
		t.Errorf("Raw(2) = %q, end %d", got, r.End())
	}
	if r.U8() != 7 || r.Left() != 0 || r.End() != api.OK || r.End() != api.OK {
		t.Error("at the end")
	}
	if r.U8() != 0 || r.End() != api.ErrShort {
		t.Error("behind the end")
	}
}

// P2.2
func TestReaderStaysAtItsError(t *testing.T) {
	for name, take := range map[string]func(r *octet.Reader) bool{
		"U16": func(r *octet.Reader) bool { return r.U16() == 0 },
		"U32": func(r *octet.Reader) bool { return r.U32() == 0 },
		"I64": func(r *octet.Reader) bool { return r.I64() == 0 },
		"Raw": func(r *octet.Reader) bool { return len(r.Raw(2)) == 0 },
		"Raw of very much": func(r *octet.Reader) bool {
			return len(r.Raw(math.MaxInt)) == 0
		},
	} {
		r := octet.NewReader([]byte{5})
		if !take(r) || r.Left() != 0 || r.End() != api.ErrShort {
			t.Errorf("%s: %d left, end %d", name, r.Left(), r.End())
		}
		if r.U8() != 0 || r.U16() != 0 || r.U32() != 0 || r.I64() != 0 || len(r.Raw(1)) != 0 || len(r.Raw(0)) != 0 || r.End() != api.ErrShort {
			t.Errorf("%s: behind the error", name)
		}
	}
	r := octet.NewReader(nil)
	if r.End() != api.OK || r.U8() != 0 || r.End() != api.ErrShort {
		t.Error("of no bytes")
	}
}

// P2.2, R2
func TestReaderKeepsToItself(t *testing.T) {
	b := []byte{1, 2, 3, 4}
	r := octet.NewReader(b[:3])
	b[1] = 9
	first := r.Raw(2)
	if !bytes.Equal(first, []byte{1, 2}) {
		t.Errorf("what was handed in is kept: %x", first)
	}
	first = append(first, 8)
	first[0] = 9
	if got := r.U8(); got != 3 || r.End() != api.OK || b[0] != 1 || b[3] != 4 {
		t.Errorf("%d, %x", got, b)
	}
}

// P2.2, R3
func TestNil(t *testing.T) {
	var w *octet.Writer
	w.U8(1)
	w.U16(1)
	w.U32(1)
	w.I64(1)
	w.Raw([]byte{1})
	if w.Len() != 0 || len(w.Bytes()) != 0 {
		t.Error("a nil writer has something")
	}
	var r *octet.Reader
	if r.U8() != 0 || r.U16() != 0 || r.U32() != 0 || r.I64() != 0 || len(r.Raw(1)) != 0 || r.Left() != 0 || r.End() != api.ErrArg {
		t.Error("a nil reader has something")
	}
}

// P2.3
func TestWhatIsWrittenIsRead(t *testing.T) {
	rnd := rand.New(rand.NewSource(1))
	for range 300 {
		var w octet.Writer
		var checks []func(r *octet.Reader) bool
		for range rnd.Intn(12) {
			n, raw := int64(rnd.Uint64()), make([]byte, rnd.Intn(5))
			rnd.Read(raw)
			switch rnd.Intn(5) {
			case 0:
				w.U8(int(n))
				checks = append(checks, func(r *octet.Reader) bool { return r.U8() == int(n&0xff) })
			case 1:
				w.U16(int(n))
				checks = append(checks, func(r *octet.Reader) bool { return r.U16() == int(n&0xffff) })
			case 2:
				w.U32(uint32(n))
				checks = append(checks, func(r *octet.Reader) bool { return r.U32() == uint32(n) })
			case 3:
				w.I64(n)
				checks = append(checks, func(r *octet.Reader) bool { return r.I64() == n })
			case 4:
				w.Raw(raw)
				checks = append(checks, func(r *octet.Reader) bool { return bytes.Equal(r.Raw(len(raw)), raw) })
			}
		}
		r := octet.NewReader(w.Bytes())
		for i, same := range checks {
			if !same(r) {
				t.Fatalf("call %d reads another", i)
			}
		}
		if r.End() != api.OK {
			t.Fatalf("end %d", r.End())
		}
	}
}
