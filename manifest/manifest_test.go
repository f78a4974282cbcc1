package manifest_test

import (
	"bytes"
	"math/rand"
	"testing"

	"goit/api"
	"goit/frame"
	"goit/manifest"
)

// upTo is the segments 1 to n.
func upTo(n int) []int {
	l := make([]int, n)
	for i := range l {
		l[i] = i + 1
	}
	return l
}

var goodOnes = []api.Manifest{
	{Version: 1, Next: 2, Segs: []int{1}}, {Version: 3, Next: 1000000, Segs: []int{1, 7, 999999}}, {Version: 2, Next: 65, Segs: upTo(64)},
}

var badOnes = map[string]api.Manifest{
	"zero":                   {},
	"version 0":              {Version: 0, Next: 2, Segs: []int{1}},
	"version 4":              {Version: 4, Next: 2, Segs: []int{1}},
	"version below 0":        {Version: -1, Next: 2, Segs: []int{1}},
	"no segments":            {Version: 1, Next: 2},
	"too many":               {Version: 1, Next: 100, Segs: upTo(65)},
	"segment 0":              {Version: 1, Next: 2, Segs: []int{0, 1}},
	"segment below 0":        {Version: 1, Next: 2, Segs: []int{-1}},
	"a segment that Next is": {Version: 1, Next: 2, Segs: []int{1, 2}},
	"not rising":             {Version: 1, Next: 5, Segs: []int{2, 1}},
	"one twice":              {Version: 1, Next: 5, Segs: []int{2, 2}},
	"Next 0":                 {Version: 1, Next: 0, Segs: []int{1}},
	"Next 1":                 {Version: 1, Next: 1, Segs: []int{1}},
	"Next too great":         {Version: 1, Next: 1000001, Segs: []int{1}},
	"Next above 32 bits":     {Version: 1, Next: 1<<32 + 2, Segs: []int{1}},
}

// P5.1
func TestMay(t *testing.T) {
	for _, m := range goodOnes {
		if !manifest.May(m) {
			t.Errorf("%v may not be", m)
		}
	}
	for name, m := range badOnes {
		if manifest.May(m) {
			t.Errorf("%s may be", name)
		}
		if b, e := manifest.Encode(m); e != api.ErrArg || len(b) != 0 {
			t.Errorf("Encode, %s: %d", name, e)
		}
	}
}

// P5.1
func TestEncode(t *testing.T) {
	b, e := manifest.Encode(api.Manifest{Version: 2, Next: 0x10203, Segs: []int{5, 0x10000}})
	want, _ := frame.Put(api.Frame{Kind: 100, Version: 2, Body: []byte{0, 1, 2, 3, 0, 2, 0, 0, 0, 5, 0, 1, 0, 0}})
	if e != api.OK || !bytes.Equal(b, want) {
		t.Errorf("%d, %x", e, b)
	}
}

// P5.1
func TestDecodeRefuses(t *testing.T) {
	put := func(kind, version int, body ...byte) []byte {
		b, _ := frame.Put(api.Frame{Kind: kind, Version: version, Body: body})
		return b
	}
	good := []byte{0, 0, 0, 3, 0, 2, 0, 0, 0, 1, 0, 0, 0, 2}
	many := []byte{0, 0, 1, 0, 0, 65}
	for _, seg := range upTo(65) {
		many = append(many, 0, 0, 0, byte(seg))
	}
	for name, x := range map[string]struct {
		b    []byte
		want api.Errno
	}{
		"good":                         {put(100, 3, good...), api.OK},
		"nothing":                      {nil, api.ErrShort},
		"no frame":                     {[]byte("this is no frame at all"), api.ErrForm},
		"not whole":                    {put(100, 3, good...)[:20], api.ErrShort},
		"bytes behind":                 {append(put(100, 3, good...), 0), api.ErrForm},
		"bytes behind, no version":     {append(put(100, 9, good...), 0), api.ErrForm},
		"another kind":                 {put(99, 3, good...), api.ErrForm},
		"another kind, no version":     {put(99, 4, good...), api.ErrForm},
		"version 0":                    {put(100, 0, good...), api.ErrVersion},
		"version 4":                    {put(100, 4, good...), api.ErrVersion},
		"version 4, no body":           {put(100, 4), api.ErrVersion},
		"no body":                      {put(100, 3), api.ErrForm},
		"a body that is short":         {put(100, 3, good[:13]...), api.ErrForm},
		"a body that is long":          {put(100, 3, append(good[:14:14], 0)...), api.ErrForm},
		"no segments":                  {put(100, 3, 0, 0, 0, 3, 0, 0), api.ErrForm},
		"too many segments":            {put(100, 3, many...), api.ErrForm},
		"segments that do not rise":    {put(100, 3, 0, 0, 0, 3, 0, 2, 0, 0, 0, 1, 0, 0, 0, 1), api.ErrForm},
		"a segment that is not behind": {put(100, 3, 0, 0, 0, 2, 0, 2, 0, 0, 0, 1, 0, 0, 0, 2), api.ErrForm},
	} {
		m, e := manifest.Decode(x.b)
		if e != x.want || (e != api.OK && !manifest.Same(m, api.Manifest{})) {
			t.Errorf("%s: %d, not %d (%v)", name, e, x.want, m)
		}
	}
}

// P5.2
func TestName(t *testing.T) {
	for seg, want := range map[int]string{1: "s000001", 7: "s000007", 123456: "s123456", 999999: "s999999", 0: "", -1: "", 1000000: "", -99999: ""} {
		if got := manifest.Name(seg); got != want {
			t.Errorf("Name(%d) = %q", seg, got)
		}
		if want != "" {
			if n, ok := manifest.Number(want); n != seg || !ok {
				t.Errorf("Number(%q) = %d, %v", want, n, ok)
			}
		}
	}
	for _, name := range []string{"", "s", "m", "m.new", "000001", "s000000", "s00001", "s0000001", "s1000000", "S000001", "s00000a", "s-00001", "s+00001", "ss00001", "s00001 ", " s000001", "s00 001", "s0x0001", "s00_001", "t000001"} {
		if n, ok := manifest.Number(name); ok || n != 0 {
			t.Errorf("Number(%q) = %d, %v", name, n, ok)
		}
	}
}

// P5.2
func TestSame(t *testing.T) {
	a := goodOnes[1]
	for _, b := range []api.Manifest{{Version: 2, Next: a.Next, Segs: a.Segs}, {Version: a.Version, Next: 7, Segs: a.Segs}, {Version: a.Version, Next: a.Next, Segs: a.Segs[:2]}, {Version: a.Version, Next: a.Next, Segs: []int{1, 8, 999999}}} {
		if manifest.Same(a, b) || manifest.Same(b, a) {
			t.Errorf("%v is like %v", a, b)
		}
	}
	if !manifest.Same(a, a) || !manifest.Same(api.Manifest{}, api.Manifest{Segs: []int{}}) {
		t.Error("one is not like itself")
	}
}

// P5.3
func TestDecodeOfEncode(t *testing.T) {
	r := rand.New(rand.NewSource(1))
	for _, m := range goodOnes {
		b, e := manifest.Encode(m)
		if e != api.OK {
			t.Fatalf("Encode(%v): %d", m, e)
		}
		got, e := manifest.Decode(b)
		if e != api.OK || !manifest.Same(got, m) {
			t.Errorf("%v comes back as %v, %d", m, got, e)
		}
		for at := range b {
			c := bytes.Clone(b)
			c[at] ^= byte(1 + r.Intn(255))
			if _, e := manifest.Decode(c); e == api.OK {
				t.Errorf("a change at %d is not told", at)
			}
			if _, e := manifest.Decode(b[:at]); e == api.OK {
				t.Errorf("%d bytes of it are one, too", at)
			}
		}
		got.Segs[0] = 99
		if m.Segs[0] != 1 {
			t.Error("Decode shares memory")
		}
	}
}
