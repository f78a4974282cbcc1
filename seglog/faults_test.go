package seglog_test

import (
	"math/rand"
	"slices"
	"strings"
	"testing"

	"goit/api"
	"goit/disk"
	"goit/manifest"
	"goit/seglog"
)

// full is a log whose only segment takes no third frame.
func full(t *testing.T) (*disk.Disk, *seglog.Log) {
	t.Helper()
	d := disk.New(plenty)
	l := create(t, d, 3, 40)
	want(t, l.Append(1, []byte("one")), api.OK, l.Append(1, []byte("two")), api.OK)
	return d, l
}

// P6.3
func TestAppendWhereTheDiskFails(t *testing.T) {
	for n := 1; n <= 8; n++ {
		d, l := full(t)
		d.Fail(n)
		if e := l.Append(1, []byte("three")); e != api.ErrFault {
			t.Errorf("at operation %d: %d", n, e)
		}
		segs, counted := []int{1}, n >= 7
		if counted {
			segs = []int{1, 2}
		}
		if !slices.Equal(l.Segs(), segs) || l.Loose() != (n == 7) || l.Size() != 38 {
			t.Errorf("at operation %d: segments %v, loose %v, %d bytes", n, l.Segs(), l.Loose(), l.Size())
		}
		if m := theManifest(t, d); !slices.Equal(m.Segs, segs) {
			t.Errorf("at operation %d: manifest %v", n, m)
		}
		tells(t, d, "one two")
		want(t, l.Append(1, []byte("three")), api.OK, l.Sync(), api.OK)
		d.Crash(nil)
		tells(t, d, "one two three")
	}
}

// P6.3: what has the name of a new segment was left behind
func TestAppendOverWhatWasLeftBehind(t *testing.T) {
	d, l := full(t)
	want(t, d.Append("s000002", []byte("left")), api.OK, d.Append("m.new", []byte("left")), api.OK)
	d.Fail(2)
	want(t, l.Append(1, []byte("three")), api.ErrFault)
	if b, _ := d.Read("s000002"); string(b) != "left" || !slices.Equal(l.Segs(), []int{1}) {
		t.Error("a segment is begun whose name is not free")
	}
	was := d.Ops()
	want(t, l.Append(1, []byte("three")), api.OK)
	if d.Ops() != was+10 {
		t.Errorf("%d operations", d.Ops()-was)
	}
	names(t, d, "m s000001 s000002")
	tells(t, d, "one two three")
}

// loose is a log whose last manifest counts and is not sure.
func loose(t *testing.T) (*disk.Disk, *seglog.Log) {
	t.Helper()
	d, l := full(t)
	d.Fail(7)
	if want(t, l.Append(1, []byte("three")), api.ErrFault); !l.Loose() {
		t.Fatal("it is not loose")
	}
	return d, l
}

// P6.3, P6.4: all that is done on a loose log begins with SyncDir
func TestLoose(t *testing.T) {
	for name, do := range map[string]func(l *seglog.Log) api.Errno{
		"Append": func(l *seglog.Log) api.Errno { return l.Append(1, []byte("three")) },
		"Sync":   func(l *seglog.Log) api.Errno { return l.Sync() },
		"Swap":   func(l *seglog.Log) api.Errno { return l.Swap(3, rowsOf("one", "two")) },
	} {
		d, l := loose(t)
		was := d.Copy()
		d.Fail(1)
		if e := do(l); e != api.ErrFault || !l.Loose() || !slices.Equal(d.Names(), was.Names()) || d.Size() != was.Size() || d.Ops() != was.Ops()+1 {
			t.Errorf("%s: %d, loose %v", name, e, l.Loose())
		}
		if e := do(l); e != api.OK || l.Loose() {
			t.Errorf("%s, again: %d, loose %v", name, e, l.Loose())
		}
		d.Crash([]byte{0})
		if m := theManifest(t, d); slices.Equal(m.Segs, []int{1}) {
			t.Errorf("%s: the names are not sure", name)
		}
	}
	d, l := loose(t)
	want(t, l.Append(-1, nil), api.ErrArg, l.Swap(0, nil), api.ErrVersion, l.Swap(3, []api.Frame{{Kind: -1}}), api.ErrArg)
	if !l.Loose() {
		t.Error("what is refused makes sure")
	}
	d.Crash([]byte{0, 0}) // nothing of it: the log is what it was
	tells(t, d, "one two")
}

// P6.2: what Open tells is sure, the names, too
func TestOpenOfALooseLog(t *testing.T) {
	d, _ := loose(t)
	if _, e := seglog.Open(d, 40, nil); e != api.OK {
		t.Fatalf("Open: %d", e)
	}
	d.Crash([]byte{0})
	if m := theManifest(t, d); !slices.Equal(m.Segs, []int{1, 2}) {
		t.Errorf("manifest %v", m)
	}
	tells(t, d, "one two")
}

// P6.3
func TestAppendToTheLastSegment(t *testing.T) {
	d := disk.New(plenty)
	l := create(t, d, 1, 16)
	for range api.MaxSegs {
		want(t, l.Append(1, nil), api.OK)
	}
	was := d.Ops()
	want(t, l.Append(1, nil), api.ErrLong, l.Append(1, []byte("x")), api.ErrLong)
	if len(l.Segs()) != api.MaxSegs || l.Size() != 16*api.MaxSegs || d.Ops() != was {
		t.Errorf("%d segments, %d bytes", len(l.Segs()), l.Size())
	}
	want(t, l.Swap(1, rowsOf("one")), api.OK, l.Append(1, nil), api.OK)
	if !slices.Equal(l.Segs(), []int{65, 66}) {
		t.Errorf("segments %v", l.Segs())
	}
}

// P6.3
func TestNoRoom(t *testing.T) {
	d := disk.New(38 + 32) // a frame of the manifest has 26 bytes, and 4 more for each segment behind the first
	l := create(t, d, 3, 100)
	want(t, l.Append(1, []byte("one")), api.OK, l.Append(1, []byte("two")), api.OK, l.Append(1, []byte("three")), api.ErrQuota)
	tells(t, d, "one two")
	want(t, l.Swap(3, rowsOf("one")), api.ErrQuota)
	names(t, d, "m s000001")
	tells(t, d, "one two")
}

// P6.3
func TestSync(t *testing.T) {
	d := disk.New(plenty)
	l := create(t, d, 3, 100)
	want(t, l.Append(1, []byte("one")), api.OK, l.Sync(), api.OK, l.Append(1, []byte("two")), api.OK)
	c := d.Copy()
	c.Crash([]byte{0, 0, 5})
	tells(t, c, "one")
	c = d.Copy()
	c.Crash([]byte{0, 0, 19})
	tells(t, c, "one two")
	d.Fail(1)
	want(t, l.Sync(), api.ErrFault, l.Sync(), api.OK)
	d.Crash(nil)
	tells(t, d, "one two")
}

// P6.4
func TestSwap(t *testing.T) {
	d, l := full(t)
	was := d.Ops()
	rows := rowsOf("a", "b", "c", "d")
	rows[1].Version, rows[1].Kind = 1, 200 // rows are as they are
	want(t, l.Swap(2, rows), api.OK)
	if l.Version() != 2 || !slices.Equal(l.Segs(), []int{2, 3}) || l.Size() != 68 || l.Loose() || d.Ops() != was+4+2+4+1 {
		t.Errorf("version %d, segments %v, %d bytes, %d operations", l.Version(), l.Segs(), l.Size(), d.Ops()-was)
	}
	names(t, d, "m s000002 s000003")
	if m := theManifest(t, d); !manifest.Same(m, api.Manifest{Version: 2, Next: 4, Segs: []int{2, 3}}) {
		t.Errorf("manifest %v", m)
	}
	b, _ := d.Read("s000002")
	if len(b) != 34 || b[17+4] != 200 || b[17+5] != 1 || b[5] != 3 {
		t.Errorf("%x", b)
	}
	if rows[0].Body[0] = 'x'; l.Append(1, []byte("e")) != api.OK || !slices.Equal(l.Segs(), []int{2, 3, 4}) {
		t.Errorf("segments %v", l.Segs())
	}
}

// P6.4
func TestSwapOfNothing(t *testing.T) {
	d, l := full(t)
	want(t, l.Swap(3, nil), api.OK)
	names(t, d, "m s000002")
	if l.Size() != 0 || !slices.Equal(l.Segs(), []int{2}) {
		t.Errorf("segments %v, %d bytes", l.Segs(), l.Size())
	}
	tells(t, d, "")
	want(t, l.Append(1, []byte("one")), api.OK)
	tells(t, d, "one")
}

// P6.4
func TestSwapRefuses(t *testing.T) {
	long := api.Frame{Body: make([]byte, api.MaxBody+1)}
	many := make([]api.Frame, 2*api.MaxSegs+1)
	for name, x := range map[string]struct {
		version int
		rows    []api.Frame
		want    api.Errno
	}{
		"version 0": {0, nil, api.ErrVersion}, "version 4": {4, []api.Frame{{Kind: -1}}, api.ErrVersion}, "a kind that may not be": {3, []api.Frame{{}, {Kind: 256}, long}, api.ErrArg},
		"a long one": {3, []api.Frame{{}, long, {Kind: -1}}, api.ErrLong}, "too many segments": {3, many, api.ErrLong},
	} {
		d, l := full(t)
		if e := l.Swap(x.version, x.rows); e != x.want || !slices.Equal(l.Segs(), []int{1}) || l.Version() != 3 || l.Loose() {
			t.Errorf("%s: %d, segments %v", name, e, l.Segs())
		}
		names(t, d, "m s000001")
		tells(t, d, "one two")
	}
	d := disk.New(plenty)
	l := create(t, d, 3, 32)
	want(t, l.Swap(3, many[:2*api.MaxSegs]), api.OK)
	if len(l.Segs()) != api.MaxSegs {
		t.Errorf("%d segments", len(l.Segs()))
	}
}

// P6.4: two new segments are begun, Synced, counted; then the old one is removed
func TestSwapWhereTheDiskFails(t *testing.T) {
	for n := 1; n <= 11; n++ {
		d, l := full(t)
		d.Fail(n)
		e := l.Swap(2, rowsOf("a", "b", "c"))
		counted, sure := n >= 9, n >= 10
		if (e == api.OK) != sure || (!sure && e != api.ErrFault) || l.Loose() != (counted && !sure) {
			t.Errorf("at operation %d: %d, loose %v", n, e, l.Loose())
		}
		version, segs, files := 3, []int{1}, "m s000001"
		switch {
		case n == 6 || n == 7 || n == 8:
			files = "m m.new s000001"
		case counted:
			version, segs, files = 2, []int{2, 3}, "m s000001 s000002 s000003"
		}
		if n == 6 { // m.new itself could not be made
			files = "m s000001"
		}
		if n == 11 {
			files = "m s000002 s000003"
		}
		if l.Version() != version || !slices.Equal(l.Segs(), segs) {
			t.Errorf("at operation %d: version %d, segments %v", n, l.Version(), l.Segs())
		}
		names(t, d, files)
	}
}

// P6.4: as far as the disk lets, and only what was begun
func TestSwapTakesBackWhatItBegan(t *testing.T) {
	d, l := full(t)
	want(t, d.Append("s000003", []byte("left")), api.OK)
	d.Fail(4) // a, b, Sync of s000002, Remove of s000003
	want(t, l.Swap(3, rowsOf("a", "b", "c")), api.ErrFault)
	names(t, d, "m s000001 s000003")
	want(t, l.Swap(3, rowsOf("a", "b", "c")), api.OK)
	names(t, d, "m s000002 s000003")
}

// P6.5
func TestClean(t *testing.T) {
	d, l := full(t)
	for _, name := range []string{"m.new", "s000000", "s000002", "s999999", "s0000001", "other", "m.old"} {
		want(t, d.Append(name, nil), api.OK)
	}
	d.Fail(2)
	if n := l.Clean(); n != 2 {
		t.Errorf("%d files", n)
	}
	names(t, d, "m m.old other s000000 s0000001 s000001 s000002")
	if n := l.Clean(); n != 1 {
		t.Errorf("%d files", n)
	}
	names(t, d, "m m.old other s000000 s0000001 s000001")
	if was := d.Ops(); l.Clean() != 0 || d.Ops() != was {
		t.Error("there is nothing to clean")
	}
	tells(t, d, "one two")
	segs := l.Segs()
	if segs[0] = 9; l.Segs()[0] != 1 {
		t.Error("Segs shares memory")
	}
}

// R3
func TestNil(t *testing.T) {
	var l *seglog.Log
	want(t, l.Append(1, nil), api.ErrArg, l.Append(-1, nil), api.ErrArg, l.Sync(), api.ErrArg, l.Swap(1, nil), api.ErrArg)
	if l.Version() != 0 || len(l.Segs()) != 0 || l.Size() != 0 || l.Loose() || l.Clean() != 0 {
		t.Error("a nil log has something")
	}
}

// P6.6
func TestCrashes(t *testing.T) {
	r := rand.New(rand.NewSource(1))
	for run := range 400 {
		d := disk.New(plenty)
		l := create(t, d, 1+run%3, 16+r.Intn(60))
		var all, sure []string
		for step := range r.Intn(25) {
			if r.Intn(4) == 0 {
				d.Fail(1 + r.Intn(9))
			}
			body := string(rune('a' + step))
			switch r.Intn(6) {
			case 0:
				if l.Sync() == api.OK {
					sure = slices.Clone(all)
				}
			case 1:
				var rows []api.Frame
				for _, b := range all {
					rows = append(rows, api.Frame{Kind: 2, Version: l.Version(), Body: []byte(b)})
				}
				if l.Swap(l.Version(), rows) == api.OK {
					sure = slices.Clone(all)
				}
			default:
				if l.Append(1, []byte(body)) == api.OK {
					all = append(all, body)
				}
			}
		}
		d.Fail(0)
		tells(t, d, strings.Join(all, " "))
		picks := make([]byte, r.Intn(8))
		r.Read(picks)
		d.Crash(picks)
		got := told(t, d)
		if !strings.HasPrefix(strings.Join(all, " "), got) || !strings.HasPrefix(got, strings.Join(sure, " ")) {
			t.Fatalf("run %d: behind Crash(%x) %q is told, of %q, sure %q", run, picks, got, all, sure)
		}
	}
}

// P6.6: wholly or not at all
func TestCrashInASwap(t *testing.T) {
	r := rand.New(rand.NewSource(2))
	for run := range 400 {
		d, l := full(t)
		want(t, l.Sync(), api.OK)
		d.Fail(r.Intn(13))
		e := l.Swap(3, rowsOf("a", "b", "c"))
		picks := make([]byte, r.Intn(8))
		r.Read(picks)
		d.Crash(picks)
		got := told(t, d)
		if got != "a b c" && (got != "one two" || e == api.OK) {
			t.Fatalf("run %d: behind Swap (%d) and Crash(%x) %q is told", run, e, picks, got)
		}
	}
}
