package tags

import (
	"fmt"
	"math/rand"
	"slices"
	"strings"
	"testing"

	"mapmaker/api"
)

// list makes tags from words of the form key=value.
func list(words ...string) []api.Tag {
	var l []api.Tag
	for _, w := range words {
		key, val, _ := strings.Cut(w, "=")
		l = append(l, api.Tag{Key: key, Val: val})
	}
	return l
}

// many returns n valid tags in order.
func many(n int) []api.Tag {
	var l []api.Tag
	for i := range n {
		l = append(l, api.Tag{Key: fmt.Sprintf("k%03d", i), Val: "v"})
	}
	return l
}

var (
	long64 = strings.Repeat("x", 64)
	long65 = strings.Repeat("x", 65)
)

func TestP6_1Check(t *testing.T) {
	for _, x := range []struct {
		l    []api.Tag
		want api.Errno
	}{
		{nil, api.OK}, {list("a=1"), api.OK}, {list("a=", "b="), api.OK}, {list("A=", "a=", "\xff="), api.OK}, {list("a=", "aa=", "b="), api.OK},
		{many(16), api.OK}, {many(17), api.ErrLong}, {append(many(16), api.Tag{}), api.ErrLong},
		{list("=1"), api.ErrTag}, {list(long64 + "=" + long64), api.OK}, {list(long65 + "=1"), api.ErrTag}, {list("a=" + long65), api.ErrTag},
		{list("a=", "a="), api.ErrOrder}, {list("b=", "a="), api.ErrOrder}, {list("a=", "B="), api.ErrOrder}, {list("\xff=", "a="), api.ErrOrder},
		{list("b=", "a=", "="), api.ErrOrder}, {list("b=", "c=", "=", "a="), api.ErrTag}, {list("b=", "a="+long65), api.ErrTag}, {list("b=", "="), api.ErrTag}, {list("a=", "b=", "b="+long64), api.ErrOrder},
	} {
		if got := Check(x.l); got != x.want {
			t.Errorf("Check of %v is %d, not %d", x.l, got, x.want)
		}
	}
}

func TestP6_1Canon(t *testing.T) {
	for _, x := range []struct {
		l, want []api.Tag
		err     api.Errno
	}{
		{list("b=1", "a=2"), list("a=2", "b=1"), api.OK}, {nil, nil, api.OK}, {list("a=1"), list("a=1"), api.OK}, {list("a=", "B=", "\xff=", "aa="), list("B=", "a=", "aa=", "\xff="), api.OK},
		{many(17), nil, api.ErrLong}, {append(many(16), api.Tag{}), nil, api.ErrLong}, {many(16), many(16), api.OK},
		{list("b=", "=", "a="), nil, api.ErrTag}, {list("a=" + long65), nil, api.ErrTag}, {list(long65 + "="), nil, api.ErrTag}, {list("b="+long64, long64+"="), list("b="+long64, long64+"="), api.OK},
		{list("b=", "a=", "b="), nil, api.ErrTwice}, {list("b=1", "b=1"), nil, api.ErrTwice}, {list("a=", "a=", "="), nil, api.ErrTag}, {list("b=", "a=", "b="+long65), nil, api.ErrTag},
	} {
		got, err := Canon(x.l)
		if err != x.err || !slices.Equal(got, x.want) {
			t.Errorf("Canon of %v is %v, %d", x.l, got, err)
		}
	}
}

func TestP6_2Get(t *testing.T) {
	l := list("b=1", "a=2", "b=3", "c=")
	for _, x := range []struct {
		key, val string
		ok       bool
	}{{"b", "1", true}, {"a", "2", true}, {"c", "", true}, {"d", "", false}, {"", "", false}, {"B", "", false}} {
		if val, ok := Get(l, x.key); val != x.val || ok != x.ok {
			t.Errorf("Get of %q is %q, %v", x.key, val, ok)
		}
	}
	if val, ok := Get(list("=7"), ""); val != "7" || !ok {
		t.Errorf("Get of the empty key is %q, %v", val, ok)
	}
}

func TestP6_2Set(t *testing.T) {
	for _, x := range []struct {
		l        []api.Tag
		key, val string
		want     []api.Tag
	}{
		{nil, "a", "1", list("a=1")}, {list("a=1", "c=2"), "b", "x", list("a=1", "b=x", "c=2")}, {list("a=1"), "b", "x", list("a=1", "b=x")}, {list("b=1"), "a", "x", list("a=x", "b=1")},
		{list("a=1", "a=2"), "a", "3", list("a=3")}, {list("b=1", "a=2", "b=3", "c=4", "b=5"), "b", "x", list("b=x", "a=2", "c=4")}, {list("c=1", "b=2", "a=3", "b=4"), "b", "", list("c=1", "b=", "a=3")},
		{list("a=", "d=", "b=", "e="), "c", "x", list("a=", "c=x", "d=", "b=", "e=")}, {list("a=1"), "", "x", list("=x", "a=1")}, {list("\xff=1"), "z", "x", list("z=x", "\xff=1")}, {list("a=1", "b=2"), "b", "2", list("a=1", "b=2")},
	} {
		if got := Set(x.l, x.key, x.val); !slices.Equal(got, x.want) {
			t.Errorf("Set of %s=%s in %v is %v", x.key, x.val, x.l, got)
		}
	}
}

func TestP6_2Drop(t *testing.T) {
	for _, x := range []struct {
		l    []api.Tag
		key  string
		want []api.Tag
	}{
		{nil, "a", nil}, {list("a=1"), "a", nil}, {list("a=1"), "b", list("a=1")}, {list("b=1", "a=2", "b=3", "b=4", "c=5"), "b", list("a=2", "c=5")}, {list("a=", "="), "", list("a=")},
	} {
		if got := Drop(x.l, x.key); !slices.Equal(got, x.want) {
			t.Errorf("Drop of %q from %v is %v", x.key, x.l, got)
		}
	}
}

func TestP6_2Same(t *testing.T) {
	for _, x := range []struct {
		a, b []api.Tag
		want bool
	}{
		{nil, []api.Tag{}, true}, {list("a=1"), list("a=1"), true}, {list("a=1"), list("a=2"), false}, {list("a=1"), list("b=1"), false}, {list("a=1"), nil, false}, {nil, list("a=1"), false},
		{list("a=1", "b=2"), list("b=2", "a=1"), false}, {list("a=1", "b=2"), list("a=1"), false}, {list("a=1", "b=2"), list("a=1", "b=2"), true},
	} {
		if got := Same(x.a, x.b); got != x.want {
			t.Errorf("Same of %v and %v is %v", x.a, x.b, got)
		}
	}
}

func TestP6_2Number(t *testing.T) {
	for _, x := range []struct {
		val string
		n   int
		ok  bool
	}{
		{"050", 50, true}, {"0", 0, true}, {"7", 7, true}, {"000000000", 0, true}, {"999999999", 999999999, true}, {"123456789", 123456789, true},
		{"", 0, false}, {"5x", 0, false}, {"x5", 0, false}, {"1234567890", 0, false}, {"0000000001", 0, false}, {"-5", 0, false}, {"+5", 0, false}, {" 5", 0, false}, {"5 ", 0, false}, {"1/2", 0, false}, {"1:2", 0, false}, {"\xd9\xa1", 0, false},
	} {
		if n, ok := Number(list("a=9", "speed="+x.val), "speed"); n != x.n || ok != x.ok {
			t.Errorf("Number of %q is %d, %v", x.val, n, ok)
		}
	}
	if n, ok := Number(list("a=9"), "b"); n != 0 || ok {
		t.Errorf("Number of a key that is missing is %d, %v", n, ok)
	}
	if n, ok := Number(list("a=x", "a=9"), "a"); n != 0 || ok {
		t.Errorf("Number is not that of the first tag: %d, %v", n, ok)
	}
	if n, ok := Number(list("a=8", "a=9"), "a"); n != 8 || !ok {
		t.Errorf("Number is not that of the first tag: %d, %v", n, ok)
	}
}

// General rule 5: arguments keep their elements, also beyond their length.
func TestP6_Aliasing(t *testing.T) {
	whole := list("b=1", "a=2", "b=3", "z=4", "z=5")
	l, before := whole[:3], slices.Clone(whole)
	spoil := func(m []api.Tag) {
		for i := range m {
			m[i] = api.Tag{Key: "spoiled"}
		}
		_ = append(m, api.Tag{Key: "spoiled"})
		if !slices.Equal(whole, before) {
			t.Fatalf("an argument was changed: %v", whole)
		}
	}
	spoil(Set(l, "b", "x"))
	spoil(Set(l, "c", "x"))
	spoil(Set(l, "", "x"))
	spoil(Drop(l, "b"))
	spoil(Drop(l, "none"))
	m, _ := Canon(whole[1:3])
	spoil(m)
}

// randomTags returns a valid list.
func randomTags(r *rand.Rand) []api.Tag {
	var l []api.Tag
	for _, key := range []string{"a", "b", "c", "d", "e", "f"} {
		if r.Intn(2) == 0 {
			l = append(l, api.Tag{Key: key, Val: fmt.Sprint(r.Intn(3))})
		}
	}
	return l
}

func TestP6_3SetAndDrop(t *testing.T) {
	r := rand.New(rand.NewSource(1))
	for range 3000 {
		l := randomTags(r)
		key, val := string(rune('a'-1+r.Intn(8))), fmt.Sprint(r.Intn(9))
		m := Set(l, key, val)
		if got, ok := Get(m, key); Check(m) != api.OK || got != val || !ok {
			t.Fatalf("Set of %s=%s in %v is %v", key, val, l, m)
		}
		if _, had := Get(l, key); !had && !Same(Drop(m, key), l) {
			t.Fatalf("Drop of %s from %v is not %v", key, m, l)
		}
		for _, x := range l {
			if got, ok := Get(m, x.Key); x.Key != key && (got != x.Val || !ok) {
				t.Fatalf("Set of %s=%s in %v is %v", key, val, l, m)
			}
		}
	}
	if m := Set(many(16), "z", ""); Check(m) != api.ErrLong || len(m) != 17 {
		t.Error("a seventeenth tag is not set")
	}
}

func TestP6_3Canon(t *testing.T) {
	r := rand.New(rand.NewSource(2))
	for range 3000 {
		l := randomTags(r)
		m := slices.Clone(l)
		r.Shuffle(len(m), func(i, j int) { m[i], m[j] = m[j], m[i] })
		once, err := Canon(m)
		if err != api.OK || !Same(once, l) || Check(once) != api.OK {
			t.Fatalf("Canon of %v is %v, %d", m, once, err)
		}
		if twice, err := Canon(once); err != api.OK || !Same(once, twice) {
			t.Fatalf("Canon of %v is %v, %d", once, twice, err)
		}
	}
}
