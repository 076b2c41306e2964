package names

import (
	"fmt"
	"slices"
	"testing"

	"mapmaker/api"
)

func TestP3_1Add(t *testing.T) {
	x := New()
	if x == nil || x.Len() != 0 || len(x.All()) != 0 {
		t.Fatal("New is not an empty table")
	}
	for i, want := range []int{0, 1, 0, 2, 1, 2} {
		s := []string{"b", "a", "b", "", "a", ""}[i]
		if got := x.Add(s); got != want {
			t.Errorf("Add(%q) is %d, not %d", s, got, want)
		}
	}
	if x.Len() != 3 || !slices.Equal(x.All(), []string{"b", "a", ""}) {
		t.Errorf("All is %q", x.All())
	}
}

func TestP3_1Find(t *testing.T) {
	x, err := Of([]string{"b", "a"})
	if err != api.OK {
		t.Fatal(err)
	}
	for _, y := range []struct {
		s  string
		n  int
		ok bool
	}{{"b", 0, true}, {"a", 1, true}, {"c", 0, false}, {"", 0, false}, {"B", 0, false}} {
		if n, ok := x.Find(y.s); n != y.n || ok != y.ok {
			t.Errorf("Find(%q) is %d, %v", y.s, n, ok)
		}
	}
	if x.Len() != 2 {
		t.Error("Find adds")
	}
}

func TestP3_1Get(t *testing.T) {
	x, _ := Of([]string{"b", "a"})
	for _, y := range []struct {
		i  int
		s  string
		ok bool
	}{{0, "b", true}, {1, "a", true}, {2, "", false}, {-1, "", false}, {1 << 62, "", false}, {-1 << 63, "", false}} {
		if s, ok := x.Get(y.i); s != y.s || ok != y.ok {
			t.Errorf("Get(%d) is %q, %v", y.i, s, ok)
		}
	}
}

func TestP3_1Of(t *testing.T) {
	for _, l := range [][]string{{"a", "a"}, {"a", "b", "a"}, {"", "x", ""}, {"c", "a", "b", "b"}} {
		if x, err := Of(l); x != nil || err != api.ErrTwice {
			t.Errorf("Of(%q) is %v, %d", l, x, err)
		}
	}
	for _, l := range [][]string{nil, {""}, {"b", "a"}, {"a", "A", "\x00", ""}} {
		x, err := Of(l)
		if err != api.OK || !slices.Equal(x.All(), l) || x.Len() != len(l) {
			t.Errorf("Of(%q) is %v, %d", l, x, err)
		}
	}
}

func TestP3_1NilTable(t *testing.T) {
	var x *Table
	if x.Add("a") != -1 || x.Len() != 0 || x.All() != nil {
		t.Error("Add, Len or All of a nil table")
	}
	if n, ok := x.Find("a"); n != 0 || ok {
		t.Error("Find in a nil table")
	}
	if s, ok := x.Get(0); s != "" || ok {
		t.Error("Get from a nil table")
	}
}

func TestP3_2Inverses(t *testing.T) {
	x := New()
	for i := range 500 {
		s := fmt.Sprint(i * i % 101)
		n := x.Add(s)
		if got, ok := x.Get(n); got != s || !ok {
			t.Fatalf("Get(%d) is %q, %v, not %q", n, got, ok, s)
		}
		if got, ok := x.Find(s); got != n || !ok {
			t.Fatalf("Find(%q) is %d, %v, not %d", s, got, ok, n)
		}
	}
	all := x.All()
	for i, s := range all {
		if x.Add(s) != i {
			t.Fatalf("Add(%q) is not %d", s, i)
		}
	}
	if !slices.Equal(x.All(), all) {
		t.Error("adding strings of the table changes it")
	}
	y, err := Of(all)
	if err != api.OK || !slices.Equal(y.All(), all) {
		t.Error("Of does not invert All")
	}
}

// General rule 5: the table keeps nothing that the caller could change, and gives out copies.
func TestP3_Aliasing(t *testing.T) {
	l := []string{"a", "b"}
	x, _ := Of(l)
	l[0] = "x"
	x.All()[1] = "y"
	if !slices.Equal(x.All(), []string{"a", "b"}) {
		t.Errorf("All is %q", x.All())
	}
	before := x.All()
	x.Add("c")
	if !slices.Equal(before, []string{"a", "b"}) || len(x.All()) != 3 {
		t.Error("a list changes after it was returned")
	}
	y, _ := Of(x.All())
	y.Add("d")
	if x.Len() != 3 {
		t.Error("two tables are not independent")
	}
}
