package maglev_test

import (
	"encoding/binary"
	"maps"
	"math/rand"
	"slices"
	"testing"

	"goit/api"
	"goit/maglev"
	"goit/sum"
)

// ids is backends of these Ids, all of one weight.
func ids(weight int, l ...int) []api.Backend {
	var out []api.Backend
	for _, id := range l {
		out = append(out, api.Backend{Id: id, Weight: weight})
	}
	return out
}

func upTo(n int) []int {
	l := make([]int, n)
	for i := range l {
		l[i] = i
	}
	return l
}

var primes = []int{3, 5, 7, 11, 13, 17, 19, 23, 29, 31, 37, 41, 43, 47, 53, 59, 61, 67, 71, 73, 79, 83, 89, 97, 101, 103, 107, 109, 113, 127, 131, 137, 139, 149, 151, 157, 163, 167, 173, 179, 181, 191, 193, 197, 199, 211, 223, 227, 229, 233, 239, 241, 251}

// P18.1
func TestMay(t *testing.T) {
	for n := -10; n < 400; n++ {
		if got := maglev.May(n); got != slices.Contains(primes, n) {
			t.Errorf("May(%d) = %v", n, got)
		}
	}
	for _, n := range []int{257, 65537, 1<<31 - 1, 1<<63 - 1, -1 << 63} {
		if maglev.May(n) {
			t.Errorf("May(%d)", n)
		}
	}
}

// plainRow is the promise of Row.
func plainRow(id, slots int) (int, int) {
	b := binary.BigEndian.AppendUint32(nil, uint32(id))
	return int(sum.Mix(1, b)) % slots, int(sum.Mix(2, b))%(slots-1) + 1
}

// P18.1
func TestRow(t *testing.T) {
	for _, slots := range []int{3, 7, 251} {
		for _, id := range []int{0, 1, 2, 255, 256, 65535, 1 << 20, 1<<24 + 7, 1<<31 + 3} {
			offset, skip := maglev.Row(id, slots)
			wantOffset, wantSkip := plainRow(id, slots)
			if offset != wantOffset || skip != wantSkip {
				t.Errorf("Row(%d, %d) = %d, %d, not %d, %d", id, slots, offset, skip, wantOffset, wantSkip)
			}
		}
	}
	for _, slots := range []int{-1, 0, 1, 2, 4, 252, 257} {
		if offset, skip := maglev.Row(1, slots); offset != 0 || skip != 0 {
			t.Errorf("Row(1, %d) = %d, %d", slots, offset, skip)
		}
	}
}

// plainTable is the promise of Table, step by step of each row from its beginning on.
func plainTable(l []api.Backend, slots int) []int {
	t := make([]int, slots)
	for i := range t {
		t[i] = -1
	}
	for {
		for _, b := range l {
			offset, skip := plainRow(b.Id, slots)
			for range b.Weight {
				took := false
				for j := 0; j < slots && !took; j++ {
					if at := (offset + j*skip) % slots; t[at] == -1 {
						t[at], took = b.Id, true
					}
				}
				if !took {
					return t
				}
			}
		}
	}
}

// P18.2
func TestTable(t *testing.T) {
	r := rand.New(rand.NewSource(1))
	for range 300 {
		slots := primes[r.Intn(len(primes))]
		var l []api.Backend
		for id := range 200 {
			if r.Intn(20) == 0 && len(l) < api.MaxBackends {
				l = append(l, api.Backend{Id: id * 300, Addr: r.Uint32(), Weight: 1 + r.Intn(10)})
			}
		}
		if len(l) == 0 {
			continue
		}
		was := slices.Clone(l)
		if got, want := maglev.Table(l, slots), plainTable(l, slots); !slices.Equal(got, want) {
			t.Fatalf("Table(%v, %d) = %v, not %v", l, slots, got, want)
		}
		if !slices.Equal(l, was) {
			t.Fatal("Table changes what is handed in")
		}
	}
}

// P18.2
func TestTableOfNobody(t *testing.T) {
	none := []int{-1, -1, -1, -1, -1}
	for name, l := range map[string][]api.Backend{
		"none": nil, "falling": ids(1, 2, 1), "one twice": ids(1, 2, 2), "no weight": ids(0, 1, 2), "a weight below": ids(-1, 1), "a weight above": ids(11, 1), "too many": ids(1, upTo(17)...), "one of them no weight": append(ids(1, 1), ids(0, 2)...),
	} {
		if got := maglev.Table(l, 5); !slices.Equal(got, none) {
			t.Errorf("%s: %v", name, got)
		}
	}
	for _, slots := range []int{-1, 0, 1, 2, 4, 252, 257} {
		if got := maglev.Table(ids(1, 1, 2), slots); len(got) != 0 {
			t.Errorf("of %d slots: %v", slots, got)
		}
	}
}

// P18.3
func TestShares(t *testing.T) {
	for _, x := range []struct {
		t    []int
		want map[int]int
	}{{nil, map[int]int{}}, {[]int{-1, -1}, map[int]int{}}, {[]int{0, 5, -1, 0, -7, 5, 0}, map[int]int{0: 3, 5: 2}}} {
		if got := maglev.Shares(x.t); !maps.Equal(got, x.want) {
			t.Errorf("Shares(%v) = %v", x.t, got)
		}
	}
	shares := maglev.Shares(maglev.Table(ids(1, 1, 2), 7))
	if shares[1] != 4 || shares[2] != 3 {
		t.Errorf("two of seven: %v", shares)
	}
}

// P18.3
func TestMoved(t *testing.T) {
	for _, x := range []struct {
		a, b []int
		want int
	}{{nil, nil, 0}, {[]int{1, 2}, []int{1, 2}, 0}, {[]int{1, 2}, []int{2, 1}, 2}, {[]int{1, 2, 3}, []int{1}, 2}, {nil, []int{-1, 0}, 2}, {[]int{1, 2, 3}, []int{1, 5, 3, 4}, 2}} {
		if got := maglev.Moved(x.a, x.b); got != x.want || maglev.Moved(x.b, x.a) != x.want {
			t.Errorf("Moved(%v, %v) = %d", x.a, x.b, got)
		}
	}
}

// P18.4
func TestEachSlotIsTakenAndSharesAreAlike(t *testing.T) {
	for _, slots := range primes {
		for weight := 1; weight <= api.MaxWeight; weight += 3 {
			for n := 1; n <= api.MaxBackends; n += 5 {
				l := ids(weight, upTo(n)...)
				table := maglev.Table(l, slots)
				if slices.Contains(table, -1) || len(table) != slots {
					t.Fatalf("%d backends, %d slots: %v", n, slots, table)
				}
				shares := maglev.Shares(table)
				least, most := slots, 0
				for _, b := range l {
					least, most = min(least, shares[b.Id]), max(most, shares[b.Id])
				}
				if most-least > weight {
					t.Errorf("%d backends of weight %d, %d slots: %v", n, weight, slots, shares)
				}
			}
		}
	}
}
