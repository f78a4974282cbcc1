package due

type row struct {
	key string
	at  int64
}

// keys is a heap of rows that knows where each key is.
type keys struct {
	rows  []row
	place map[string]int
}

func (k *keys) Len() int { return len(k.rows) }

func (k *keys) Less(i, j int) bool {
	a, b := k.rows[i], k.rows[j]
	return a.at < b.at || a.at == b.at && a.key < b.key
}

func (k *keys) Swap(i, j int) {
	k.rows[i], k.rows[j] = k.rows[j], k.rows[i]
	k.place[k.rows[i].key], k.place[k.rows[j].key] = i, j
}

func (k *keys) Push(x any) {
	r, ok := x.(row)
	if !ok {
		return
	}
	if k.place == nil { // a zero queue
		k.place = map[string]int{}
	}
	k.place[r.key] = len(k.rows)
	k.rows = append(k.rows, r)
}

func (k *keys) Pop() any {
	last := len(k.rows) - 1
	r := k.rows[last]
	k.rows = k.rows[:last]
	delete(k.place, r.key)
	return r
}
