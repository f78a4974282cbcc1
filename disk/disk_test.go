package disk_test

import (
	"slices"
	"strings"
	"testing"

	"goit/api"
	"goit/disk"
)

// want fails the test unless each answer is the one that stands behind it.
func want(t *testing.T, answers ...api.Errno) {
	t.Helper()
	for i := 0; i+1 < len(answers); i += 2 {
		if answers[i] != answers[i+1] {
			t.Errorf("answer %d: %d, not %d", i/2, answers[i], answers[i+1])
		}
	}
}

// text is all files of a disk: name=bytes, by name.
func text(d *disk.Disk) string {
	var l []string
	for _, name := range d.Names() {
		b, ok := d.Read(name)
		if !ok {
			return "a name without a file: " + name
		}
		l = append(l, name+"="+string(b))
	}
	return strings.Join(l, " ")
}

func has(t *testing.T, d *disk.Disk, files string) {
	t.Helper()
	if got := text(d); got != files {
		t.Errorf("there is %q, not %q", got, files)
	}
}

// P3.1
func TestNew(t *testing.T) {
	for quota, want := range map[int]int{-5: 0, 0: 0, 7: 7, 64 * api.MaxFile: 64 * api.MaxFile, 64*api.MaxFile + 1: 64 * api.MaxFile} {
		d := disk.New(quota)
		if d.Quota() != want || d.Size() != 0 || len(d.Names()) != 0 || d.Ops() != 0 {
			t.Errorf("New(%d): quota %d", quota, d.Quota())
		}
	}
}

// P3.1
func TestFail(t *testing.T) {
	d := disk.New(100)
	d.Fail(2)
	want(t, d.Append("a", []byte("x")), api.OK, d.Append("a", []byte("y")), api.ErrFault, d.Append("a", []byte("z")), api.OK)
	has(t, d, "a=xz")
	for _, n := range []int{0, -1} {
		d.Fail(1)
		d.Fail(n)
		want(t, d.Sync("a"), api.OK)
	}
	if d.Ops() != 5 {
		t.Errorf("%d operations", d.Ops())
	}
}

// P3.1
func TestFailureComesFirstAndDoesNothing(t *testing.T) {
	for name, op := range map[string]func(d *disk.Disk) api.Errno{
		"Append":          func(d *disk.Disk) api.Errno { return d.Append("a", []byte("z")) },
		"Append, no name": func(d *disk.Disk) api.Errno { return d.Append("", nil) },
		"Sync":            func(d *disk.Disk) api.Errno { return d.Sync("a") },
		"Sync of none":    func(d *disk.Disk) api.Errno { return d.Sync("none") },
		"Cut":             func(d *disk.Disk) api.Errno { return d.Cut("a", 0) },
		"Cut of none":     func(d *disk.Disk) api.Errno { return d.Cut("none", 0) },
		"Rename":          func(d *disk.Disk) api.Errno { return d.Rename("a", "b") },
		"Rename of none":  func(d *disk.Disk) api.Errno { return d.Rename("none", "b") },
		"Remove":          func(d *disk.Disk) api.Errno { return d.Remove("a") },
		"Remove of none":  func(d *disk.Disk) api.Errno { return d.Remove("none") },
		"SyncDir":         func(d *disk.Disk) api.Errno { return d.SyncDir() },
	} {
		d := disk.New(100)
		want(t, d.Append("a", []byte("xy")), api.OK)
		d.Fail(1)
		if e := op(d); e != api.ErrFault || d.Ops() != 2 || text(d) != "a=xy" {
			t.Errorf("%s: %d, %d operations, %q", name, e, d.Ops(), text(d))
		}
		d.Crash([]byte{1, 1})
		has(t, d, "a=x") // neither the name nor the bytes were made sure
	}
}

// P3.1: what is refused counts, too
func TestOpsCountsAll(t *testing.T) {
	d := disk.New(3)
	want(t, d.Append("", nil), api.ErrArg, d.Append("a", []byte("wxyz")), api.ErrQuota, d.Sync("a"), api.ErrNone,
		d.Cut("a", 0), api.ErrNone, d.Rename("a", "b"), api.ErrNone, d.Remove("a"), api.ErrNone, d.SyncDir(), api.OK)
	d.Read("a")
	d.Names()
	d.Size()
	if d.Ops() != 7 {
		t.Errorf("%d operations", d.Ops())
	}
	d.Fail(3)
	want(t, d.Sync("a"), api.ErrNone, d.Append("", nil), api.ErrArg, d.SyncDir(), api.ErrFault, d.SyncDir(), api.OK)
}

// P3.2
func TestAppend(t *testing.T) {
	d := disk.New(10)
	long := strings.Repeat("n", api.MaxName)
	want(t, d.Append("", nil), api.ErrArg, d.Append(long+"n", nil), api.ErrArg, d.Append(long, nil), api.OK,
		d.Append("a", []byte("12345")), api.OK, d.Append(long, []byte("12345")), api.OK, d.Append("b", []byte("1")), api.ErrQuota,
		d.Append("a", []byte("1")), api.ErrQuota, d.Append("a", nil), api.OK, d.Append("c", nil), api.OK)
	has(t, d, "a=12345 c= "+long+"=12345")
	if d.Size() != 10 {
		t.Errorf("%d bytes", d.Size())
	}
	want(t, d.Remove("a"), api.OK, d.Append("c", []byte("12345")), api.OK)
	has(t, d, "c=12345 "+long+"=12345")
}

// P3.2
func TestAppendUpToItsBounds(t *testing.T) {
	d := disk.New(3 * api.MaxFile)
	most := make([]byte, api.MaxFile)
	want(t, d.Append("b", append(most, 0)), api.ErrQuota, d.Append("a", most), api.OK, d.Append("a", []byte{0}), api.ErrQuota, d.Append("a", nil), api.OK)
	for i := range api.MaxFiles - 1 {
		want(t, d.Append(string([]byte{'f', byte('0' + i/26), byte('a' + i%26)}), nil), api.OK)
	}
	want(t, d.Append("more", nil), api.ErrQuota, d.Append("f0a", []byte{1}), api.OK, d.Remove("f0a"), api.OK, d.Append("more", nil), api.OK)
	if len(d.Names()) != api.MaxFiles {
		t.Errorf("%d files", len(d.Names()))
	}
}

// P3.2
func TestCut(t *testing.T) {
	d := disk.New(100)
	want(t, d.Append("a", []byte("12345")), api.OK, d.Cut("b", 0), api.ErrNone, d.Cut("b", -1), api.ErrNone,
		d.Cut("a", -1), api.ErrArg, d.Cut("a", 6), api.ErrArg, d.Cut("a", 5), api.OK, d.Cut("a", 3), api.OK, d.SyncDir(), api.OK)
	want(t, d.Append("a", []byte("z")), api.OK)
	has(t, d, "a=123z")
	d.Crash(nil)
	has(t, d, "a=123")
	want(t, d.Cut("a", 0), api.OK)
	has(t, d, "a=")
}

// P3.2
func TestRename(t *testing.T) {
	d := disk.New(100)
	long := strings.Repeat("n", api.MaxName+1)
	want(t, d.Append("a", []byte("1")), api.OK, d.Append("b", []byte("2")), api.OK, d.SyncDir(), api.OK, d.Sync("a"), api.OK, d.Sync("b"), api.OK)
	want(t, d.Rename("c", ""), api.ErrNone, d.Rename("a", ""), api.ErrArg, d.Rename("a", long), api.ErrArg, d.Rename("a", "a"), api.OK)
	has(t, d, "a=1 b=2")
	want(t, d.Rename("a", "b"), api.OK)
	has(t, d, "b=1")
	if d.Size() != 1 {
		t.Errorf("%d bytes", d.Size())
	}
	all := d.Copy()
	d.Crash([]byte{0})
	has(t, d, "a=1 b=2")
	all.Crash([]byte{1})
	has(t, all, "b=1") // to rename a to a was no change
}

// P3.2
func TestRemove(t *testing.T) {
	d := disk.New(100)
	want(t, d.Append("a", []byte("1")), api.OK, d.Sync("a"), api.OK, d.SyncDir(), api.OK, d.Remove("a"), api.OK, d.Remove("a"), api.ErrNone)
	has(t, d, "")
	if b, ok := d.Read("a"); ok || len(b) != 0 || d.Size() != 0 {
		t.Error("it is there yet")
	}
	back := d.Copy()
	back.Crash(nil)
	has(t, back, "a=1")
	want(t, d.SyncDir(), api.OK)
	d.Crash(nil)
	has(t, d, "")
}

// P3.3
func TestCrashOfBytes(t *testing.T) {
	d := disk.New(100)
	want(t, d.Append("a", []byte("xy")), api.OK, d.Sync("a"), api.OK, d.SyncDir(), api.OK, d.Append("a", []byte("z12")), api.OK)
	for pick, files := range map[byte]string{0: "a=xy", 1: "a=xyz", 3: "a=xyz12", 4: "a=xy", 255: "a=xyz12"} {
		c := d.Copy()
		c.Crash([]byte{0, pick})
		has(t, c, files)
		c.Crash([]byte{0, 0}) // all that is there is sure
		has(t, c, files)
	}
	d.Crash(nil)
	has(t, d, "a=xy")
}

// P3.3: a pick for each file that has a name, with nothing to lose, too
func TestCrashTakesItsPicksInOrder(t *testing.T) {
	d := disk.New(100)
	for _, name := range []string{"c", "a", "b"} {
		want(t, d.Append(name, []byte("12345")), api.OK)
	}
	want(t, d.Sync("b"), api.OK, d.SyncDir(), api.OK)
	d.Crash([]byte{9, 2, 4, 3, 1})
	has(t, d, "a=12 b=12345 c=123")
}

// P3.3
func TestCrashOfNames(t *testing.T) {
	d := disk.New(100)
	want(t, d.Append("a", []byte("1")), api.OK, d.Sync("a"), api.OK, d.SyncDir(), api.OK)
	want(t, d.Append("b", []byte("2")), api.OK, d.Sync("b"), api.OK, d.Rename("b", "a"), api.OK, d.Append("b", []byte("3")), api.OK, d.Sync("b"), api.OK, d.Remove("a"), api.OK)
	for i, files := range []string{"a=1", "a=1 b=2", "a=2", "a=2 b=3", "b=3", "a=1"} {
		c := d.Copy()
		c.Crash([]byte{byte(i)})
		has(t, c, files)
		c.Crash([]byte{1}) // the others are no changes any more
		has(t, c, files)
	}
}

// P3.3
func TestCrashForgetsWhatWasToFail(t *testing.T) {
	d := disk.New(100)
	d.Fail(1)
	d.Crash(nil)
	want(t, d.Append("a", nil), api.OK)
	if d.Ops() != 1 {
		t.Errorf("%d operations", d.Ops())
	}
}

// P3.3: a crash may bring back more than the quota
func TestAppendBehindACrashThatBringsBack(t *testing.T) {
	d := disk.New(4)
	want(t, d.Append("a", []byte("12")), api.OK, d.Append("b", []byte("12")), api.OK, d.Sync("a"), api.OK, d.Sync("b"), api.OK, d.SyncDir(), api.OK,
		d.Remove("a"), api.OK, d.Append("b", []byte("34")), api.OK, d.Sync("b"), api.OK)
	d.Crash(nil)
	has(t, d, "a=12 b=1234")
	want(t, d.Append("b", nil), api.ErrQuota)
}

// P3.3
func TestNamesInOrder(t *testing.T) {
	d := disk.New(100)
	for _, name := range []string{"b", "a", "B", "aa", "\xff", "\x00"} {
		want(t, d.Append(name, []byte(name)), api.OK)
	}
	got := d.Names()
	if !slices.Equal(got, []string{"\x00", "B", "a", "aa", "b", "\xff"}) || d.Size() != 7 {
		t.Errorf("%q, %d bytes", got, d.Size())
	}
	got[0] = "changed"
	if d.Names()[0] != "\x00" {
		t.Error("Names shares memory")
	}
}

// P3.2, P3.3, R2
func TestFilesKeepToThemselves(t *testing.T) {
	d := disk.New(100)
	b := []byte("12345")
	want(t, d.Append("a", b[:3]), api.OK)
	b[0] = 'x'
	got, _ := d.Read("a")
	got = append(got[:1], "zzz"...)
	want(t, d.Append("a", []byte("4")), api.OK)
	if string(b) != "x2345" || string(got) != "1zzz" {
		t.Errorf("%q, %q", b, got)
	}
	has(t, d, "a=1234")
}

// P3.3
func TestCopy(t *testing.T) {
	d := disk.New(7)
	want(t, d.Append("a", []byte("1")), api.OK, d.Sync("a"), api.OK, d.SyncDir(), api.OK, d.Append("a", []byte("2")), api.OK, d.Append("b", []byte("3")), api.OK)
	d.Fail(2)
	c := d.Copy()
	if c.Quota() != 7 || c.Ops() != d.Ops() {
		t.Errorf("quota %d, %d operations", c.Quota(), c.Ops())
	}
	want(t, c.Sync("a"), api.OK, c.Append("a", []byte("x")), api.ErrFault, c.Append("a", []byte("y")), api.OK, c.Remove("b"), api.OK)
	has(t, d, "a=12 b=3")
	want(t, d.Append("b", []byte("4")), api.OK, d.Sync("b"), api.ErrFault)
	has(t, c, "a=12y")
	d.Crash([]byte{1, 0, 1})
	has(t, d, "a=1 b=3")
	c.Crash([]byte{1, 0, 1})
	has(t, c, "a=12 b=3")
}

// P3.3: what is appended to one of two is not in the other
func TestCopiesShareNothing(t *testing.T) {
	d := disk.New(1000)
	for range 5 {
		want(t, d.Append("a", []byte("123")), api.OK)
	}
	c := d.Copy()
	want(t, c.Append("a", []byte("xyz")), api.OK, d.Append("a", []byte("uvw")), api.OK, c.Cut("a", 3), api.OK, c.Append("a", []byte("new")), api.OK)
	has(t, c, "a=123new")
	has(t, d, "a=123123123123123uvw")
	c = d.Copy()
	want(t, c.Append("a", []byte("xyz")), api.OK, d.Append("a", []byte("rst")), api.OK)
	has(t, c, "a=123123123123123uvwxyz")
}

// R3
func TestNil(t *testing.T) {
	var d *disk.Disk
	want(t, d.Append("a", nil), api.ErrArg, d.Sync("a"), api.ErrArg, d.SyncDir(), api.ErrArg, d.Rename("a", "b"), api.ErrArg, d.Remove("a"), api.ErrArg, d.Cut("a", 0), api.ErrArg)
	d.Fail(1)
	d.Crash([]byte{1})
	if b, ok := d.Read("a"); ok || len(b) != 0 || len(d.Names()) != 0 || d.Size() != 0 || d.Ops() != 0 || d.Quota() != 0 || d.Copy() != nil {
		t.Error("a nil disk has something")
	}
}
