package due_test

import (
	"cmp"
	"math"
	"math/rand"
	"slices"
	"strconv"
	"strings"
	"testing"

	"goit/api"
	"goit/due"
)

func set(t *testing.T, q *due.Queue, key string, at int64, want api.Errno) {
	t.Helper()
	if e := q.Set(key, at); e != want {
		t.Errorf("Set(%q, %d): %d, not %d", key, at, e, want)
	}
}

func isDue(t *testing.T, q *due.Queue, now int64, want string) {
	t.Helper()
	if got := strings.Join(q.Due(now), " "); got != want {
		t.Errorf("Due(%d): %q, not %q", now, got, want)
	}
}

// P10.1
func TestSetAndAt(t *testing.T) {
	q := due.New()
	if q.Len() != 0 {
		t.Error("a new one has something")
	}
	set(t, q, "a", -1, api.ErrArg)
	set(t, q, "a", api.MaxTime+1, api.ErrArg)
	set(t, q, "a", math.MinInt64, api.ErrArg)
	if at, ok := q.At("a"); ok || at != 0 || q.Len() != 0 {
		t.Error("what is refused is there")
	}
	set(t, q, "a", 0, api.OK)
	set(t, q, "", api.MaxTime, api.OK)
	set(t, q, "a", 7, api.OK)
	set(t, q, "a", -1, api.ErrArg)
	if at, ok := q.At("a"); !ok || at != 7 {
		t.Errorf("At(a) = %d, %v", at, ok)
	}
	if at, ok := q.At(""); !ok || at != api.MaxTime || q.Len() != 2 {
		t.Errorf("At() = %d, %v, %d keys", at, ok, q.Len())
	}
}

// P10.1
func TestFull(t *testing.T) {
	q := due.New()
	for i := range api.MaxDue {
		set(t, q, strconv.Itoa(i), int64(i), api.OK)
	}
	set(t, q, "more", 5, api.ErrFull)
	set(t, q, "more", -5, api.ErrArg)
	set(t, q, "7", 3, api.OK)
	if q.Len() != api.MaxDue || !q.Drop("8") {
		t.Errorf("%d keys", q.Len())
	}
	set(t, q, "more", 5, api.OK)
	set(t, q, "8", 5, api.ErrFull)
	if got := len(q.Due(api.MaxTime)); got != api.MaxDue || q.Len() != 0 {
		t.Errorf("%d were due, %d are left", got, q.Len())
	}
	set(t, q, "8", 5, api.OK)
}

// P10.1
func TestDrop(t *testing.T) {
	q := due.New()
	for i, key := range []string{"d", "b", "a", "c", "e"} {
		set(t, q, key, int64(i), api.OK)
	}
	if !q.Drop("b") || q.Drop("b") || q.Drop("none") || q.Len() != 4 {
		t.Errorf("%d keys", q.Len())
	}
	if _, ok := q.At("b"); ok {
		t.Error("it is there yet")
	}
	isDue(t, q, 9, "d a c e")
}

// P10.1
func TestNext(t *testing.T) {
	q := due.New()
	if key, at, ok := q.Next(); ok || key != "" || at != 0 {
		t.Errorf("of none: %q, %d", key, at)
	}
	set(t, q, "b", 5, api.OK)
	set(t, q, "c", 4, api.OK)
	set(t, q, "a", 5, api.OK)
	for _, want := range []string{"c 4", "a 5", "b 5"} {
		key, at, ok := q.Next()
		if got := key + " " + strconv.FormatInt(at, 10); !ok || got != want {
			t.Errorf("Next() = %q, not %q", got, want)
		}
		q.Drop(key)
	}
}

// P10.1
func TestDue(t *testing.T) {
	q := due.New()
	set(t, q, "b", 5, api.OK)
	set(t, q, "a", 5, api.OK)
	set(t, q, "ab", 5, api.OK)
	set(t, q, "c", 9, api.OK)
	set(t, q, "z", 0, api.OK)
	isDue(t, q, -1, "")
	isDue(t, q, math.MinInt64, "")
	isDue(t, q, 4, "z")
	isDue(t, q, 5, "a ab b")
	isDue(t, q, 5, "")
	if q.Len() != 1 {
		t.Errorf("%d keys", q.Len())
	}
	isDue(t, q, math.MaxInt64, "c")
}

// P10.2
func TestOrder(t *testing.T) {
	r := rand.New(rand.NewSource(1))
	for range 100 {
		q, times := due.New(), map[string]int64{}
		for range 200 {
			key, at := strconv.Itoa(r.Intn(60)), int64(r.Intn(20))
			if r.Intn(4) == 0 {
				_, was := times[key]
				if q.Drop(key) != was {
					t.Fatalf("Drop(%q) is not %v", key, was)
				}
				delete(times, key)
				continue
			}
			set(t, q, key, at, api.OK)
			times[key] = at
		}
		if q.Len() != len(times) {
			t.Fatalf("%d keys, not %d", q.Len(), len(times))
		}
		for now := int64(0); now < 20; now += 3 {
			var want []string
			for key, at := range times {
				if got, ok := q.At(key); !ok || got != at {
					t.Fatalf("At(%q) = %d, not %d", key, got, at)
				}
				if at <= now {
					want = append(want, key)
				}
			}
			slices.SortFunc(want, func(a, b string) int { return cmp.Or(cmp.Compare(times[a], times[b]), cmp.Compare(a, b)) })
			isDue(t, q, now, strings.Join(want, " "))
			for _, key := range want {
				delete(times, key)
			}
		}
	}
}

// R3
func TestNil(t *testing.T) {
	var q *due.Queue
	set(t, q, "a", 1, api.ErrArg)
	at, ok := q.At("a")
	key, next, there := q.Next()
	if at != 0 || ok || key != "" || next != 0 || there || q.Drop("a") || len(q.Due(1)) != 0 || q.Len() != 0 {
		t.Error("a nil queue has something")
	}
}
