package pq

import (
	"math"
	"math/rand"
	"testing"
)

func TestP4_1New(t *testing.T) {
	for _, n := range []int{-1, 1048577, math.MinInt, math.MaxInt} {
		if New(n) != nil {
			t.Errorf("New(%d) is not nil", n)
		}
	}
	for _, n := range []int{0, 1, 5, 1048576} {
		q := New(n)
		if q == nil || q.Len() != 0 {
			t.Fatalf("New(%d) is not an empty queue", n)
		}
		if q.Set(n, 1) || q.Set(-1, 1) || q.Set(math.MaxInt, 1) || q.Set(math.MinInt, 1) {
			t.Errorf("New(%d) has other items", n)
		}
		if n > 0 && (!q.Set(n-1, 7) || !q.Set(0, 7)) {
			t.Errorf("New(%d) has not all items", n)
		}
	}
}

func TestP4_1Example(t *testing.T) {
	q := New(3)
	for _, x := range [][2]int{{2, 5}, {0, 5}, {1, 9}, {1, 1}} {
		if !q.Set(x[0], x[1]) {
			t.Errorf("Set%v is false", x)
		}
	}
	if q.Len() != 3 {
		t.Errorf("Len is %d", q.Len())
	}
	for _, want := range [][2]int{{1, 1}, {0, 5}, {2, 5}} {
		if item, key, ok := q.Pop(); item != want[0] || key != want[1] || !ok {
			t.Errorf("Pop is %d, %d, %v, not %v", item, key, ok, want)
		}
	}
	if item, key, ok := q.Pop(); item != 0 || key != 0 || ok {
		t.Errorf("Pop of an empty queue is %d, %d, %v", item, key, ok)
	}
}

func TestP4_1KeyAndDrop(t *testing.T) {
	q := New(4)
	q.Set(1, -8)
	q.Set(2, 0)
	for _, x := range []struct {
		item, key int
		ok        bool
	}{{1, -8, true}, {2, 0, true}, {0, 0, false}, {3, 0, false}, {4, 0, false}, {-1, 0, false}, {math.MaxInt, 0, false}} {
		if key, ok := q.Key(x.item); key != x.key || ok != x.ok {
			t.Errorf("Key(%d) is %d, %v", x.item, key, ok)
		}
	}
	if q.Drop(0) || q.Drop(4) || q.Drop(-1) || q.Len() != 2 {
		t.Error("Drop of an item that is not in the queue")
	}
	if !q.Drop(1) || q.Drop(1) || q.Len() != 1 {
		t.Error("Drop of an item of the queue")
	}
	if key, ok := q.Key(1); key != 0 || ok {
		t.Errorf("Key of a dropped item is %d, %v", key, ok)
	}
	q.Pop()
	if key, ok := q.Key(2); key != 0 || ok || q.Drop(2) {
		t.Error("a popped item is in the queue")
	}
	if !q.Set(1, 3) || q.Len() != 1 {
		t.Error("a dropped item cannot return")
	}
	if item, key, ok := q.Pop(); item != 1 || key != 3 || !ok {
		t.Errorf("Pop is %d, %d, %v", item, key, ok)
	}
}

func TestP4_1ExtremeKeys(t *testing.T) {
	q := New(3)
	q.Set(0, math.MaxInt)
	q.Set(1, math.MinInt)
	q.Set(2, 0)
	for _, want := range []int{1, 2, 0} {
		if item, _, _ := q.Pop(); item != want {
			t.Errorf("Pop is %d, not %d", item, want)
		}
	}
}

func TestP4_1NilQueue(t *testing.T) {
	var q *Queue
	if q.Set(0, 1) || q.Drop(0) || q.Len() != 0 {
		t.Error("Set, Drop or Len of a nil queue")
	}
	if key, ok := q.Key(0); key != 0 || ok {
		t.Error("Key in a nil queue")
	}
	if item, key, ok := q.Pop(); item != 0 || key != 0 || ok {
		t.Error("Pop of a nil queue")
	}
}

// least returns the item that Pop must return, found by a search through all items.
func least(keys map[int]int) (int, int, bool) {
	item, key, ok := 0, 0, false
	for i, k := range keys {
		if !ok || k < key || k == key && i < item {
			item, key, ok = i, k, true
		}
	}
	return item, key, ok
}

func TestP4_1AgainstMap(t *testing.T) {
	r := rand.New(rand.NewSource(1))
	for range 200 {
		n := 1 + r.Intn(40)
		q, keys := New(n), map[int]int{}
		for range 300 {
			item, key := r.Intn(n), r.Intn(20)-10
			switch r.Intn(5) {
			case 0:
				_, had := keys[item]
				delete(keys, item)
				if q.Drop(item) != had {
					t.Fatalf("Drop(%d) is not %v", item, had)
				}
			case 1:
				i, k, some := least(keys)
				delete(keys, i)
				if gi, gk, ok := q.Pop(); gi != i || gk != k || ok != some {
					t.Fatalf("Pop is %d, %d, %v, not %d, %d, %v", gi, gk, ok, i, k, some)
				}
			default:
				keys[item] = key
				if !q.Set(item, key) {
					t.Fatalf("Set(%d, %d) is false", item, key)
				}
			}
			want, had := keys[item]
			if k, ok := q.Key(item); k != want || ok != had || q.Len() != len(keys) {
				t.Fatalf("Key(%d) is %d, %v; Len is %d", item, k, ok, q.Len())
			}
		}
	}
}

func TestP4_2PopInOrder(t *testing.T) {
	r := rand.New(rand.NewSource(2))
	const n = 5000
	q := New(n)
	for i := range n {
		q.Set(i, r.Intn(100))
	}
	for range n {
		q.Set(r.Intn(n), r.Intn(100))
	}
	seen := map[int]bool{}
	lastItem, lastKey := -1, math.MinInt
	for q.Len() > 0 {
		item, key, ok := q.Pop()
		if !ok || seen[item] || key < lastKey || key == lastKey && item <= lastItem {
			t.Fatalf("Pop is %d, %d, %v after %d, %d", item, key, ok, lastItem, lastKey)
		}
		seen[item] = true
		lastItem, lastKey = item, key
	}
	if len(seen) != n {
		t.Errorf("%d items were popped", len(seen))
	}
}
