package seglog_test

import (
	"slices"
	"strings"
	"testing"

	"goit/api"
	"goit/disk"
	"goit/frame"
	"goit/manifest"
	"goit/seglog"
)

const plenty = 1 << 20

// want fails the test unless each answer is the one that stands behind it.
func want(t *testing.T, answers ...api.Errno) {
	t.Helper()
	for i := 0; i+1 < len(answers); i += 2 {
		if answers[i] != answers[i+1] {
			t.Errorf("answer %d: %d, not %d", i/2, answers[i], answers[i+1])
		}
	}
}

func create(t *testing.T, d *disk.Disk, version, size int) *seglog.Log {
	t.Helper()
	l, e := seglog.Create(d, version, size)
	if e != api.OK || l == nil {
		t.Fatalf("Create: %d", e)
	}
	return l
}

// reader is one that is told frames.
type reader struct {
	bodies []string
	frames []api.Frame
	stop   int // what it tells at its nth frame ..
	err    api.Errno
}

func (r *reader) take(f api.Frame) api.Errno {
	r.bodies = append(r.bodies, string(f.Body))
	r.frames = append(r.frames, f)
	if len(r.frames) == r.stop {
		return r.err
	}
	return api.OK
}

// told is what Open of a copy of the disk tells.
func told(t *testing.T, d *disk.Disk) string {
	t.Helper()
	var r reader
	if l, e := seglog.Open(d.Copy(), plenty, r.take); e != api.OK || l == nil {
		t.Fatalf("Open: %d", e)
	}
	return strings.Join(r.bodies, " ")
}

func tells(t *testing.T, d *disk.Disk, want string) {
	t.Helper()
	if got := told(t, d); got != want {
		t.Errorf("Open tells %q, not %q", got, want)
	}
}

func names(t *testing.T, d *disk.Disk, want string) {
	t.Helper()
	if got := strings.Join(d.Names(), " "); got != want {
		t.Errorf("files %q, not %q", got, want)
	}
}

func theManifest(t *testing.T, d *disk.Disk) api.Manifest {
	t.Helper()
	b, _ := d.Read("m")
	m, e := manifest.Decode(b)
	if e != api.OK {
		t.Fatalf("m: %d", e)
	}
	return m
}

func rowsOf(bodies ...string) []api.Frame {
	var l []api.Frame
	for _, b := range bodies {
		l = append(l, api.Frame{Kind: 1, Version: 3, Body: []byte(b)})
	}
	return l
}

// P6.1
func TestCreate(t *testing.T) {
	for version := 1; version <= 3; version++ {
		d := disk.New(plenty)
		l := create(t, d, version, 100)
		names(t, d, "m s000001")
		if m := theManifest(t, d); !manifest.Same(m, api.Manifest{Version: version, Next: 2, Segs: []int{1}}) {
			t.Errorf("manifest %v", m)
		}
		if l.Version() != version || !slices.Equal(l.Segs(), []int{1}) || l.Size() != 0 || l.Loose() || d.Ops() != 6 {
			t.Errorf("version %d, segments %v, %d bytes, %d operations", l.Version(), l.Segs(), l.Size(), d.Ops())
		}
		d.Crash(nil)
		names(t, d, "m s000001")
		tells(t, d, "")
	}
}

// P6.1
func TestCreateRefuses(t *testing.T) {
	d := disk.New(plenty)
	create(t, d, 1, 100)
	other := disk.New(plenty)
	want(t, other.Append("m", nil), api.OK)
	for name, x := range map[string]struct {
		d       *disk.Disk
		version int
		want    api.Errno
	}{
		"no disk": {nil, 1, api.ErrArg}, "no disk, no version": {nil, 0, api.ErrArg}, "version 0": {disk.New(plenty), 0, api.ErrVersion}, "version 4": {disk.New(plenty), 4, api.ErrVersion},
		"a log is there": {d, 1, api.ErrState}, "a log is there, no version": {d, 4, api.ErrVersion}, "m is there": {other, 1, api.ErrState}, "no room": {disk.New(10), 1, api.ErrQuota},
	} {
		ops := x.d.Ops()
		l, e := seglog.Create(x.d, x.version, 100)
		if e != x.want || l != nil {
			t.Errorf("%s: %d, not %d", name, e, x.want)
		}
		if x.want != api.ErrQuota && x.d.Ops() != ops {
			t.Errorf("%s: the disk was asked", name)
		}
	}
}

// P6.1
func TestCreateOverWhatWasLeftBehind(t *testing.T) {
	d := disk.New(plenty)
	want(t, d.Append("s000001", []byte("left")), api.OK, d.Append("m.new", []byte("left")), api.OK)
	create(t, d, 2, 100)
	names(t, d, "m s000001")
	tells(t, d, "")
}

// P6.1
func TestCreateWhereTheDiskFails(t *testing.T) {
	for n := 1; n <= 6; n++ {
		d := disk.New(plenty)
		d.Fail(n)
		if l, e := seglog.Create(d, 1, 100); e != api.ErrFault || (l != nil && n < 6) || d.Ops() != n {
			t.Errorf("at operation %d: %d", n, e)
		}
		_, there := d.Read("m")
		if there != (n == 6) {
			t.Errorf("at operation %d: m is there: %v", n, there)
		}
	}
}

// P6.1, P6.3
func TestSizes(t *testing.T) {
	for size, segs := range map[int]int{-1: 3, 0: 3, 16: 3, 17: 3, 49: 3, 50: 2, 74: 2, 75: 1, 100: 1, 1 << 40: 1} {
		d := disk.New(plenty)
		l := create(t, d, 3, size)
		for _, b := range []string{"aaaaaaaaa", "bbbbbbbbb", "ccccccccc"} { // 25 bytes each
			want(t, l.Append(1, []byte(b)), api.OK)
		}
		if len(l.Segs()) != segs || l.Size() != 75 {
			t.Errorf("size %d: segments %v, %d bytes", size, l.Segs(), l.Size())
		}
		tells(t, d, "aaaaaaaaa bbbbbbbbb ccccccccc")
	}
}

// P6.1, P6.4: no segment is longer than a file may be
func TestTheLongestSegment(t *testing.T) {
	rows := make([]api.Frame, api.MaxFile/(16+api.MaxBody), 256)
	for i := range rows {
		rows[i].Body = make([]byte, api.MaxBody)
	}
	for body, segs := range map[string]int{"": 1, "x": 2} { // there is room for sixteen bytes more
		d := disk.New(8 * api.MaxFile)
		l := create(t, d, 3, 1<<40)
		want(t, l.Swap(3, append(rows, api.Frame{Body: []byte(body)})), api.OK)
		if len(l.Segs()) != segs {
			t.Errorf("with %q: %d segments", body, len(l.Segs()))
		}
	}
}

// P6.2
func TestOpen(t *testing.T) {
	d := disk.New(plenty)
	l := create(t, d, 2, 40)
	want(t, l.Append(7, []byte("one")), api.OK, l.Append(8, nil), api.OK, l.Append(9, []byte("three")), api.OK)
	var r reader
	l, e := seglog.Open(d, 40, r.take)
	if e != api.OK || l.Version() != 2 || !slices.Equal(l.Segs(), []int{1, 2}) || l.Size() != 56 || l.Loose() {
		t.Fatalf("%d: version %d, segments %v, %d bytes", e, l.Version(), l.Segs(), l.Size())
	}
	for i, f := range []api.Frame{{Kind: 7, Version: 2, Body: []byte("one")}, {Kind: 8, Version: 2}, {Kind: 9, Version: 2, Body: []byte("three")}} {
		if !frame.Same(r.frames[i], f) {
			t.Errorf("frame %d: %v", i, r.frames[i])
		}
	}
	ops := d.Ops()
	if _, e := seglog.Open(d, 40, nil); e != api.OK || d.Ops() != ops+2 {
		t.Errorf("nobody who reads: %d, %d operations", e, d.Ops()-ops)
	}
	d.Crash(nil) // what was told is sure
	tells(t, d, "one  three")
}

// broken is a log of two segments on a disk, the first of which, and the second, is changed so.
func broken(t *testing.T, change func(d *disk.Disk)) *disk.Disk {
	t.Helper()
	d := disk.New(plenty)
	l := create(t, d, 2, 16)
	want(t, l.Append(1, []byte("one")), api.OK, l.Append(1, []byte("two")), api.OK, l.Sync(), api.OK)
	change(d)
	return d
}

// rewrite gives a file other bytes.
func rewrite(d *disk.Disk, name string, b []byte) {
	d.Remove(name)
	d.Append(name, b)
}

// P6.2
func TestOpenRefuses(t *testing.T) {
	row, _ := frame.Put(api.Frame{Kind: 1, Version: 2, Body: []byte("one")})
	other, _ := frame.Put(api.Frame{Kind: 1, Version: 3, Body: []byte("new")})
	noVersion, _ := frame.Put(api.Frame{Kind: 100, Version: 9})
	for name, x := range map[string]struct {
		change func(d *disk.Disk)
		want   api.Errno
		told   string
	}{
		"nothing wrong":            {func(d *disk.Disk) {}, api.OK, "one two"},
		"no manifest":              {func(d *disk.Disk) { d.Remove("m") }, api.ErrNone, ""},
		"an empty manifest":        {func(d *disk.Disk) { rewrite(d, "m", nil) }, api.ErrShort, ""},
		"no manifest at all":       {func(d *disk.Disk) { rewrite(d, "m", row) }, api.ErrForm, ""},
		"a manifest of no version": {func(d *disk.Disk) { rewrite(d, "m", noVersion) }, api.ErrVersion, ""},
		"no first segment":         {func(d *disk.Disk) { d.Remove("s000001") }, api.ErrNone, ""},
		"no last segment":          {func(d *disk.Disk) { d.Remove("s000002") }, api.ErrNone, ""},
		"the first one torn":       {func(d *disk.Disk) { d.Cut("s000001", 18) }, api.ErrForm, ""},
		"bytes behind the first":   {func(d *disk.Disk) { d.Append("s000001", []byte("x")) }, api.ErrForm, ""},
		"the last one torn":        {func(d *disk.Disk) { d.Cut("s000002", 18) }, api.OK, "one"},
		"bytes behind the last":    {func(d *disk.Disk) { d.Append("s000002", []byte("x")) }, api.OK, "one two"},
		"another version":          {func(d *disk.Disk) { d.Append("s000002", other) }, api.ErrForm, "one two"},
		"another version first":    {func(d *disk.Disk) { rewrite(d, "s000001", other) }, api.ErrForm, ""},
	} {
		d := broken(t, x.change)
		var r reader
		l, e := seglog.Open(d, 100, r.take)
		got := strings.Join(r.bodies, " ")
		if x.told == "" { // what was told ahead of the fault does not count
			got = ""
		}
		if e != x.want || (l == nil) != (e != api.OK) || got != x.told {
			t.Errorf("%s: %d, not %d, told %q", name, e, x.want, got)
		}
	}
	if l, e := seglog.Open(nil, 100, nil); e != api.ErrArg || l != nil {
		t.Errorf("no disk: %d", e)
	}
}

// P6.2: the last segment is cut behind its frames, once all are told
func TestOpenCuts(t *testing.T) {
	tear := func(d *disk.Disk) { d.Append("s000002", []byte("torn")) }
	d := broken(t, tear)
	ops := d.Ops()
	if _, e := seglog.Open(d, 100, nil); e != api.OK || d.Ops() != ops+3 {
		t.Errorf("%d, %d operations", e, d.Ops()-ops)
	}
	if b, _ := d.Read("s000002"); len(b) != 19 {
		t.Errorf("%d bytes are left", len(b))
	}
	for n := 1; n <= 3; n++ {
		d := broken(t, tear)
		d.Fail(n)
		if l, e := seglog.Open(d, 100, nil); e != api.ErrFault || l != nil {
			t.Errorf("where operation %d fails: %d", n, e)
		}
	}
	for stop := 1; stop <= 2; stop++ {
		d := broken(t, tear)
		ops := d.Ops()
		r := reader{stop: stop, err: api.ErrFull}
		if l, e := seglog.Open(d, 100, r.take); e != api.ErrFull || l != nil || len(r.frames) != stop || d.Ops() != ops {
			t.Errorf("where frame %d is refused: %d, %d told", stop, e, len(r.frames))
		}
	}
}

// P6.3
func TestAppend(t *testing.T) {
	d := disk.New(plenty)
	l := create(t, d, 3, 100)
	long := make([]byte, api.MaxBody+1)
	want(t, l.Append(-1, nil), api.ErrArg, l.Append(256, long), api.ErrArg, l.Append(1, long), api.ErrLong)
	if d.Ops() != 6 || l.Size() != 0 {
		t.Error("what is refused does something")
	}
	body := []byte("one")
	want(t, l.Append(255, body), api.OK, l.Append(0, long[:api.MaxBody]), api.OK, l.Append(1, body), api.OK)
	if body[0] = 'x'; l.Size() != 19+16+api.MaxBody+19 || !slices.Equal(l.Segs(), []int{1, 2, 3}) {
		t.Errorf("segments %v, %d bytes", l.Segs(), l.Size())
	}
	if m := theManifest(t, d); !manifest.Same(m, api.Manifest{Version: 3, Next: 4, Segs: []int{1, 2, 3}}) {
		t.Errorf("manifest %v", m)
	}
	tells(t, d, "one "+string(long[:api.MaxBody])+" one")
}

// P6.3: what an Append does to the disk
func TestOperations(t *testing.T) {
	d := disk.New(plenty)
	l := create(t, d, 3, 40)
	for i, ops := range []int{1, 1, 8, 1, 8} { // a new segment: Sync, Append, Sync, a manifest in four; and the frame
		was := d.Ops()
		want(t, l.Append(1, []byte("one")), api.OK)
		if got := d.Ops() - was; got != ops {
			t.Errorf("Append %d: %d operations", i, got)
		}
	}
	was := d.Ops()
	want(t, l.Sync(), api.OK)
	if d.Ops() != was+1 {
		t.Errorf("Sync: %d operations", d.Ops()-was)
	}
}
