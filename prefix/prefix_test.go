package prefix

import (
	"fmt"
	"math"
	"math/rand"
	"slices"
	"strings"
	"testing"
)

// check compares everything that the index says about some words with a search through the documents.
func check(t *testing.T, x *Index, docs [][]string) {
	t.Helper()
	var words []string
	for _, l := range docs {
		words = append(words, l...)
	}
	slices.Sort(words)
	words = slices.Compact(words)
	if got := x.Words(); !slices.Equal(got, words) {
		t.Fatalf("Words is %q, not %q", got, words)
	}
	if x.Len() != len(docs) {
		t.Fatalf("Len is %d, not %d", x.Len(), len(docs))
	}
	for _, p := range append(questions(), words...) {
		var exact, begins []int
		for doc, l := range docs {
			if slices.Contains(l, p) {
				exact = append(exact, doc)
			}
			if slices.ContainsFunc(l, func(w string) bool { return strings.HasPrefix(w, p) }) {
				begins = append(begins, doc)
			}
		}
		less, n := 0, 0
		for _, w := range words {
			if strings.HasPrefix(w, p) {
				n++
			} else if w < p {
				less++
			}
		}
		if got := x.Word(p); !slices.Equal(got, exact) {
			t.Fatalf("Word(%q) is %v, not %v", p, got, exact)
		}
		if got := x.Prefix(p); !slices.Equal(got, begins) {
			t.Fatalf("Prefix(%q) is %v, not %v", p, got, begins)
		}
		if from, to := x.Range(p); from != less || to != less+n {
			t.Fatalf("Range(%q) is %d, %d, not %d, %d", p, from, to, less, less+n)
		}
	}
}

// questions returns strings that are words, prefixes of words, or neither.
func questions() []string {
	return []string{"", "a", "ab", "aba", "b", "ba", "bb", "c", "A", "\x00", "a\x00", "\xff", "a\xff", "\xc3", "\xc3\xa9", "abab", "bbbbbbb", "z"}
}

func TestP52_1Examples(t *testing.T) {
	x := New([][]string{{"oak", "road"}, {"oxford"}})
	if l := x.Prefix("o"); !slices.Equal(l, []int{0, 1}) {
		t.Errorf("Prefix(o) is %v", l)
	}
	if l := x.Prefix("oa"); !slices.Equal(l, []int{0}) {
		t.Errorf("Prefix(oa) is %v", l)
	}
	if l := x.Words(); !slices.Equal(l, []string{"oak", "oxford", "road"}) {
		t.Errorf("Words is %q", l)
	}
	if x.Word("o") != nil || !slices.Equal(x.Word("oxford"), []int{1}) || x.Len() != 2 {
		t.Error("Word or Len")
	}
}

func TestP52_1Range(t *testing.T) {
	x := New([][]string{{"oak", "oaks"}, {"road", "oak"}, {"oxford"}})
	for _, y := range []struct {
		p        string
		from, to int
	}{{"", 0, 4}, {"a", 0, 0}, {"o", 0, 3}, {"oa", 0, 2}, {"oak", 0, 2}, {"oaks", 1, 2}, {"oakss", 2, 2}, {"oat", 2, 2}, {"ox", 2, 3}, {"oxfordx", 3, 3}, {"r", 3, 4}, {"s", 4, 4}, {"\xff", 4, 4}} {
		if from, to := x.Range(y.p); from != y.from || to != y.to {
			t.Errorf("Range(%q) is %d, %d, not %d, %d", y.p, from, to, y.from, y.to)
		}
	}
}

func TestP52_1New(t *testing.T) {
	for _, docs := range [][][]string{
		nil, {}, {nil}, {{}, nil, {}}, {{""}}, {{"a", "a", "a"}}, {{"b", "a"}, {"a", "b"}}, {{"ab", "a", "aba", "abab"}, nil, {"b", ""}},
		{{"\xff", "a\xff"}, {"\x00", "a\x00"}, {"\xc3\xa9", "\xc3"}}, {{"A", "a"}, {"a", "A", "a"}},
	} {
		check(t, New(docs), docs)
	}
}

func TestP52_1NilIndex(t *testing.T) {
	var x *Index
	if x.Words() != nil || x.Word("a") != nil || x.Prefix("") != nil || x.Len() != 0 {
		t.Error("lists of a nil index")
	}
	if from, to := x.Range("a"); from != 0 || to != 0 {
		t.Error("Range of a nil index")
	}
	if x.Set(0, nil) || x.Set(0, []string{"a"}) || x.Set(-1, nil) || x.Set(1, nil) {
		t.Error("Set of a nil index")
	}
}

func TestP52_2Set(t *testing.T) {
	docs := [][]string{{"a", "b"}, {"b"}}
	x := New(docs)
	for _, y := range []struct {
		doc   int
		words []string
	}{
		{0, []string{"b", "a"}}, {0, []string{"b"}}, {1, nil}, {0, []string{}}, {2, []string{"ab", "a", "ab"}}, {1, []string{"", "ab"}},
		{3, nil}, {3, []string{"aba", "b", "c"}}, {2, []string{"c", "aba"}}, {2, []string{"c", "aba"}}, {0, []string{"a", "ab", "aba", "b", "c", ""}}, {4, []string{"z"}}, {4, []string{"0"}},
	} {
		if !x.Set(y.doc, y.words) {
			t.Fatalf("Set(%d, %q) is false", y.doc, y.words)
		}
		if y.doc == len(docs) {
			docs = append(docs, nil)
		}
		docs[y.doc] = y.words
		check(t, x, docs)
	}
}

func TestP52_2SetInvalid(t *testing.T) {
	docs := [][]string{{"a", "b"}, {"b"}}
	x := New(docs)
	for _, doc := range []int{-1, 3, 100, math.MaxInt, math.MinInt} {
		if x.Set(doc, []string{"c"}) {
			t.Errorf("Set(%d) is true", doc)
		}
		check(t, x, docs)
	}
	empty := New(nil)
	if empty.Set(1, nil) || empty.Set(-1, nil) || !empty.Set(0, []string{"a"}) || !empty.Set(1, nil) {
		t.Error("Set of an empty index")
	}
	check(t, empty, [][]string{{"a"}, nil})
}

// randomWords returns some words over a small alphabet.
func randomWords(r *rand.Rand) (out []string) {
	for range r.Intn(5) {
		w := ""
		for range r.Intn(4) {
			w += string("ab\xff"[r.Intn(3)])
		}
		out = append(out, w)
	}
	return out
}

func TestP52_2SetRandom(t *testing.T) {
	r := rand.New(rand.NewSource(1))
	for range 200 {
		var docs [][]string
		for range r.Intn(4) {
			docs = append(docs, randomWords(r))
		}
		x := New(docs)
		for range 20 {
			doc, words := r.Intn(len(docs)+1), randomWords(r)
			if !x.Set(doc, words) {
				t.Fatal("Set is false")
			}
			if doc == len(docs) {
				docs = append(docs, nil)
			}
			docs[doc] = words
			check(t, x, docs)
		}
	}
}

func TestP52_3PrefixIsUnion(t *testing.T) {
	r := rand.New(rand.NewSource(2))
	for range 200 {
		x := New([][]string{randomWords(r), randomWords(r), randomWords(r), randomWords(r)})
		for _, p := range questions() {
			from, to := x.Range(p)
			var union []int
			for _, w := range x.Words()[from:to] {
				union = append(union, x.Word(w)...)
			}
			slices.Sort(union)
			if got := x.Prefix(p); !slices.Equal(got, slices.Compact(union)) {
				t.Fatalf("Prefix(%q) is %v, not %v", p, got, union)
			}
		}
	}
}

func TestP52_3AnyOrder(t *testing.T) {
	r := rand.New(rand.NewSource(3))
	for range 100 {
		docs := [][]string{randomWords(r), randomWords(r), randomWords(r), randomWords(r), randomWords(r)}
		for range 5 {
			x := New(make([][]string, len(docs)))
			for _, doc := range r.Perm(len(docs)) {
				x.Set(doc, docs[doc])
			}
			check(t, x, docs)
		}
	}
}

func TestP52_Large(t *testing.T) {
	var docs [][]string
	for i := range 20000 {
		docs = append(docs, []string{fmt.Sprint("w", i), fmt.Sprint("x", i%100)})
	}
	x := New(docs)
	if len(x.Words()) != 20100 || len(x.Prefix("w1")) != 11111 || len(x.Word("x7")) != 200 || len(x.Prefix("x")) != 20000 {
		t.Error("an index of many words")
	}
	if !x.Set(7, []string{"w8"}) || len(x.Word("x7")) != 199 || !slices.Equal(x.Word("w8"), []int{7, 8}) || x.Word("w7") != nil {
		t.Error("Set of one of many documents")
	}
}

func TestP52_Aliasing(t *testing.T) {
	docs := [][]string{{"b", "a", "b", "spare"}, {"c", "a"}}
	docs[0] = docs[0][:3]
	x := New(docs)
	want := [][]string{{"a", "b"}, {"a", "c"}}
	if !slices.Equal(docs[0][:4], []string{"b", "a", "b", "spare"}) {
		t.Error("New changes the documents")
	}
	docs[0][0], docs[1][1] = "x", "y"
	check(t, x, want)
	words := []string{"e", "d", "e"}
	x.Set(2, words)
	if !slices.Equal(words, []string{"e", "d", "e"}) {
		t.Error("Set changes the words")
	}
	words[0] = "z"
	want = append(want, []string{"d", "e"})
	check(t, x, want)
	l, w, p := x.Words(), x.Word("a"), x.Prefix("a")
	l[0], w[0], p[0] = "z", 9, 9
	_ = append(l[:1], "q")
	check(t, x, want)
	before := x.Words()
	x.Set(0, []string{"0", "1", "2"})
	x.Set(0, nil)
	if !slices.Equal(before, []string{"a", "b", "c", "d", "e"}) {
		t.Error("Set changes what Words returned")
	}
}
