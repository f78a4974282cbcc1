package disk

// Kinds of changes.
const (
	made = iota
	renamed
	removed
)

// change is what happens to names.
type change struct {
	kind int
	name string
	to   string // renamed: the name from then on
	file *file  // made: this one
}

func (n names) do(c change) {
	switch c.kind {
	case made:
		n[c.name] = c.file
	case renamed:
		n[c.to] = n[c.name]
		delete(n, c.name)
	case removed:
		delete(n, c.name)
	}
}

// change does c now, and keeps it till it is sure.
func (d *Disk) change(c change) {
	if d.names == nil { // a zero disk
		d.names, d.sure = names{}, names{}
	}
	d.names.do(c)
	d.changes = append(d.changes, c)
}

// settle makes sure the first n changes; the others never were.
func (d *Disk) settle(n int) {
	for _, c := range d.changes[:n] {
		d.sure.do(c)
	}
	d.changes = nil
}
