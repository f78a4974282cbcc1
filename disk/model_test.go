package disk_test

import (
	"maps"
	"math/rand"
	"slices"
	"testing"

	"goit/api"
	"goit/disk"
)

// model is a disk told another way: by what the names were behind each change since the last SyncDir.
type model struct {
	files []struct {
		bytes string
		sure  int
	}
	names []map[string]int
}

func (m *model) now() map[string]int { return m.names[len(m.names)-1] }

func (m *model) change(do func(names map[string]int)) {
	next := maps.Clone(m.now())
	do(next)
	m.names = append(m.names, next)
}

func (m *model) append(name, b string) {
	if _, ok := m.now()[name]; !ok {
		m.files = append(m.files, struct {
			bytes string
			sure  int
		}{})
		m.change(func(names map[string]int) { names[name] = len(m.files) - 1 })
	}
	m.files[m.now()[name]].bytes += b
}

func (m *model) crash(picks []byte) {
	next := func() int {
		if len(picks) == 0 {
			return 0
		}
		x := picks[0]
		picks = picks[1:]
		return int(x)
	}
	m.names = m.names[next()%len(m.names):][:1]
	for _, name := range slices.Sorted(maps.Keys(m.now())) {
		f := &m.files[m.now()[name]]
		f.sure += next() % (len(f.bytes) - f.sure + 1)
		f.bytes = f.bytes[:f.sure]
	}
}

func (m *model) text() string {
	d := disk.New(1 << 20)
	for name, i := range m.now() {
		d.Append(name, []byte(m.files[i].bytes))
	}
	return text(d)
}

// step does one thing on both, and tells whether both say the same of it.
func (m *model) step(r *rand.Rand, d *disk.Disk) bool {
	name, to := string(rune('a'+r.Intn(4))), string(rune('a'+r.Intn(4)))
	i, there := m.now()[name]
	asked := api.OK
	if !there {
		asked = api.ErrNone
	}
	switch r.Intn(12) {
	case 0, 1, 2, 3:
		b := "0123456789"[:r.Intn(10)]
		m.append(name, b)
		return d.Append(name, []byte(b)) == api.OK
	case 4, 5:
		if there {
			m.files[i].sure = len(m.files[i].bytes)
		}
		return d.Sync(name) == asked
	case 6, 7:
		if there && name != to {
			m.change(func(names map[string]int) { delete(names, name); names[to] = i })
		}
		return d.Rename(name, to) == asked
	case 8:
		if there {
			m.change(func(names map[string]int) { delete(names, name) })
		}
		return d.Remove(name) == asked
	case 9:
		n := 0
		if there {
			n = r.Intn(len(m.files[i].bytes) + 1)
			m.files[i].bytes, m.files[i].sure = m.files[i].bytes[:n], n
		}
		return d.Cut(name, n) == asked
	case 10:
		m.names = m.names[len(m.names)-1:]
		return d.SyncDir() == api.OK
	}
	picks := make([]byte, r.Intn(6))
	r.Read(picks)
	m.crash(picks)
	d.Crash(picks)
	return true
}

// P3.2 to P3.4
func TestDiskIsItsModel(t *testing.T) {
	r := rand.New(rand.NewSource(1))
	for run := range 300 {
		m, d := &model{names: []map[string]int{{}}}, disk.New(1<<20)
		for i := range 60 {
			if i%20 == 19 {
				d = d.Copy()
			}
			if !m.step(r, d) || text(d) != m.text() {
				t.Fatalf("run %d, step %d: %q, not %q", run, i, text(d), m.text())
			}
		}
	}
}

// P3.4
func TestWhatIsSureStays(t *testing.T) {
	r := rand.New(rand.NewSource(2))
	for range 200 {
		d := disk.New(1000)
		want(t, d.Append("a", []byte("sure")), api.OK, d.Sync("a"), api.OK, d.SyncDir(), api.OK)
		for range r.Intn(6) {
			d.Append("a", []byte("more"))
			d.Append("b", []byte("other"))
			d.Rename("b", "c")
		}
		picks := make([]byte, r.Intn(5))
		r.Read(picks)
		d.Crash(picks)
		if b, ok := d.Read("a"); !ok || len(b) < 4 || string(b[:4]) != "sure" {
			t.Fatalf("behind Crash(%x): %q", picks, b)
		}
	}
}
