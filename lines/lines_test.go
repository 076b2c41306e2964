package lines

import (
	"math"
	"math/rand"
	"reflect"
	"slices"
	"strconv"
	"strings"
	"testing"

	"mapmaker/api"
	"mapmaker/data"
)

func TestP17_1Word(t *testing.T) {
	const plain = "abcdefghijklmnopqrstuvwxyzABCDEFGHIJKLMNOPQRSTUVWXYZ0123456789-_.:/"
	for i := range 256 {
		s := string([]byte{byte(i)})
		want := s
		if !strings.Contains(plain, s) || i >= 128 {
			want = "%" + strings.ToUpper(strconv.FormatInt(int64(256+i), 16)[1:])
		}
		if w := Word(s); w != want {
			t.Errorf("Word(%q) is %q, not %q", s, w, want)
		}
	}
	for s, want := range map[string]string{"": "~", "~": "%7E", "A b": "A%20b", "a/é~": "a/%C3%A9%7E", "%41": "%2541", "x=y,z": "x%3Dy%2Cz", "\xff\x00\n": "%FF%00%0A", "a:b": "a:b", plain: plain} {
		if w := Word(s); w != want {
			t.Errorf("Word(%q) is %q, not %q", s, w, want)
		}
	}
}

// strings3 returns all strings of at most three of the letters.
func strings3(letters string) []string {
	out := []string{""}
	for i := 0; len(out[i]) < 3; i++ {
		for j := range len(letters) {
			out = append(out, out[i]+letters[j:j+1])
		}
	}
	return out
}

func TestP17_1Unword(t *testing.T) {
	const letters = "~%02347AEFaez:/ \xc3\xa9\x00\n"
	all := strings3(letters)
	// A string of three bytes is the Word of one byte, or of three bytes at most that are among these letters.
	words := map[string]string{}
	for i := range 256 {
		s := string([]byte{byte(i)})
		words[Word(s)] = s
	}
	for _, s := range all {
		words[Word(s)] = s
	}
	for _, s := range all {
		want, exists := words[s]
		if got, ok := Unword(s); got != want || ok != exists {
			t.Fatalf("Unword(%q) is %q, %v, not %q, %v", s, got, ok, want, exists)
		}
	}
	for s, want := range map[string]string{"~": "", "A%20b": "A b", "%C3%A9": "é", "%FF%00": "\xff\x00", "%2541": "%41", "%7E%7E": "~~", "a:/.-_b": "a:/.-_b"} {
		if got, ok := Unword(s); got != want || !ok {
			t.Errorf("Unword(%q) is %q, %v", s, got, ok)
		}
	}
	for _, s := range []string{"", "~~", "a~", "~a", "%", "%4", "a%2", "%41", "%2f", "%c3%a9", "é", "%GG", "a b", "a%20 ", "%%20", "%2\xc3", "%3A", "%5F", "\xff", "%\u0662\u0660", "a\n"} {
		if got, ok := Unword(s); got != "" || ok {
			t.Errorf("Unword(%q) is %q, %v", s, got, ok)
		}
	}
}

func TestP17_1Number(t *testing.T) {
	for _, n := range []int{0, 1, -1, 9, 10, 1234567890, -100, math.MaxInt, math.MinInt, math.MaxInt - 1, math.MinInt + 1} {
		if m, ok := Number(strconv.Itoa(n)); m != n || !ok {
			t.Errorf("Number of %d is %d, %v", n, m, ok)
		}
	}
	for _, s := range []string{"", "-", "+", "+1", "-0", "00", "01", "-01", "1 ", " 1", "1_000", "0x1", "1e3", "1.0", "--1", "9223372036854775808", "-9223372036854775809", "99999999999999999999999999", "١", "1\n", "~"} {
		if m, ok := Number(s); m != 0 || ok {
			t.Errorf("Number(%q) is %d, %v", s, m, ok)
		}
	}
}

// sample returns a valid dataset, whose text is sampleText.
func sample() api.Data {
	return api.Data{
		Nodes: []api.Node{
			{ID: 1, At: api.Coord{Lon: -5, Lat: 7}, Tags: []api.Tag{{Key: "a:b", Val: "c:d"}, {Key: "name", Val: "A b"}}},
			{ID: 2},
			{ID: api.MaxID, At: api.Coord{Lon: -api.MaxLon, Lat: api.MaxLat}},
		},
		Ways: []api.Way{
			{ID: 4, Nodes: []int{2, 1, 2, 2147483647}},
			{ID: 9, Nodes: []int{1, 2}, Tags: []api.Tag{{Key: "=", Val: "="}, {Key: "k"}}},
		},
		Rels: []api.Rel{
			{ID: 3, Members: []api.Member{{Ref: api.Ref{Kind: api.KWay, ID: 9}}, {Ref: api.Ref{Kind: api.KNode, ID: 2}, Role: "x:y,z"}}},
			{ID: 5, Tags: []api.Tag{{Key: "\xff", Val: "~"}}},
		},
	}
}

const sampleText = "node 1 -5 7 a%3Ab=c:d name=A%20b\nnode 2 0 0\nnode 2147483647 -1800000000 900000000\nway 4 2,1,2,2147483647\nway 9 1,2 %3D=%3D k=~\nrel 3 w9:~,n2:x%3Ay%2Cz\nrel 5 ~ %FF=%7E\n"

func TestP17_2Data(t *testing.T) {
	if s := Data(sample()); s != sampleText {
		t.Errorf("Data is %q, not %q", s, sampleText)
	}
	if s := Data(api.Data{}); s != "" {
		t.Errorf("Data of the empty dataset is %q", s)
	}
	for i, spoil := range []func(d *api.Data){
		func(d *api.Data) { d.Nodes[0].ID = 0 }, func(d *api.Data) { d.Nodes[1].ID = 1 }, func(d *api.Data) { d.Ways[0].Nodes[0] = 3 }, func(d *api.Data) { d.Rels[0].Members[0].Ref.Kind = api.KRel }, func(d *api.Data) { d.Rels[1].Tags[0].Key = "" }, func(d *api.Data) { d.Nodes[2].At.Lat++ },
	} {
		d := sample()
		spoil(&d)
		if s := Data(d); s != "" {
			t.Errorf("%d: Data is %q", i, s)
		}
	}
}

func TestP17_2Changes(t *testing.T) {
	tags := []api.Tag{{Key: "b"}, {Key: ":", Val: ":"}, {}}
	node := api.Node{ID: math.MinInt, At: api.Coord{Lon: math.MaxInt}, Tags: tags}
	way := api.Way{ID: 5}
	rel := api.Rel{ID: -7, Members: []api.Member{{Ref: api.Ref{Kind: api.KNode, ID: -1}, Role: "~"}, {Ref: api.Ref{Kind: api.KWay}}}}
	odd := api.Rel{Members: []api.Member{{Ref: api.Ref{Kind: api.KNode}}, {Ref: api.Ref{Kind: api.KRel, ID: 1}}}}
	for _, y := range []struct {
		l    []api.Change
		want string
	}{
		{nil, ""},
		{[]api.Change{{Op: api.OpDelete, Kind: api.KWay, Way: way}}, "-way 5\n"}, {[]api.Change{{Op: api.OpDelete, Kind: api.KNode, Node: node, Way: way}}, "-node -9223372036854775808\n"}, {[]api.Change{{Op: api.OpDelete, Kind: api.KRel, Rel: rel}}, "-rel -7\n"},
		// Objects need not be valid.
		{[]api.Change{{Op: api.OpPut, Kind: api.KNode, Node: node}}, "+node -9223372036854775808 9223372036854775807 0 b=~ %3A=: ~=~\n"}, {[]api.Change{{Op: api.OpPut, Kind: api.KWay, Way: way}}, "+way 5 ~\n"}, {[]api.Change{{Op: api.OpPut, Kind: api.KRel, Rel: rel}}, "+rel -7 n-1:%7E,w0:~\n"},
		{[]api.Change{{Op: api.OpPut, Kind: api.KWay, Way: way}, {Op: api.OpDelete, Kind: api.KWay, Way: way}, {Op: api.OpPut, Kind: api.KWay, Way: way}}, "+way 5 ~\n-way 5\n+way 5 ~\n"},
		{[]api.Change{{Op: 3, Kind: api.KWay}}, ""}, {[]api.Change{{Op: api.OpPut, Kind: 4}}, ""}, {[]api.Change{{Op: api.OpDelete, Kind: 0}}, ""}, {[]api.Change{{Op: api.OpPut, Kind: api.KWay, Way: way}, {}}, ""},
		{[]api.Change{{Op: api.OpPut, Kind: api.KRel, Rel: odd}}, ""}, {[]api.Change{{Op: api.OpDelete, Kind: api.KWay, Way: way}, {Op: api.OpPut, Kind: api.KRel, Rel: odd}}, ""},
		// The members of a relation that is deleted do not count, nor those that belong to another kind.
		{[]api.Change{{Op: api.OpDelete, Kind: api.KRel, Rel: odd}}, "-rel 0\n"}, {[]api.Change{{Op: api.OpPut, Kind: api.KWay, Way: way, Rel: odd}}, "+way 5 ~\n"},
	} {
		if s := Changes(y.l); s != y.want {
			t.Errorf("Changes(%v) is %q, not %q", y.l, s, y.want)
		}
	}
	for _, kind := range []int{0, 3, 4, -1, math.MaxInt} {
		c := api.Change{Op: api.OpPut, Kind: api.KRel, Rel: api.Rel{Members: []api.Member{{Ref: api.Ref{Kind: kind}}}}}
		if s := Changes([]api.Change{c}); s != "" {
			t.Errorf("Changes with a member of kind %d is %q", kind, s)
		}
	}
	many := slices.Repeat([]api.Change{{Op: api.OpDelete, Kind: api.KWay, Way: way}}, api.MaxObject+1)
	if Changes(many) != "" || Changes(many[1:]) != strings.Repeat("-way 5\n", api.MaxObject) {
		t.Error("Changes of many changes")
	}
}

func TestP17_3ParseData(t *testing.T) {
	if d, n, err := ParseData(sampleText); err != api.OK || n != 7 || !data.Same(d, sample()) {
		t.Errorf("ParseData returns %v, %d, %d", d, n, err)
	}
	if d, n, err := ParseData(""); err != api.OK || n != 0 || !data.Same(d, api.Data{}) {
		t.Errorf("ParseData of no lines returns %v, %d, %d", d, n, err)
	}
	d, n, err := ParseData("node 1 0 0 name=A%20b\n")
	if err != api.OK || n != 1 || !data.Same(d, api.Data{Nodes: []api.Node{{ID: 1, Tags: []api.Tag{{Key: "name", Val: "A b"}}}}}) {
		t.Errorf("ParseData of the example returns %v, %d, %d", d, n, err)
	}
}

// wrongLines has lines that are not those of an object.
var wrongLines = []string{
	"", " ", "x", "node", "way", "rel", "nodes 1 0 0", "Node 1 0 0", "node 1", "node 1 0", "node 1 0 0 ", " node 1 0 0", "node  1 0 0", "node 1 0  0", "node\t1 0 0", "node 1 0 0\r", "node 1 0 0 ~", "node 01 0 0", "node 1 -0 0", "node 1 0 +5", "node ~ 0 0", "node 1 0 0 a", "node 1 0 0 a=", "node 1 0 0 =b", "node 1 0 0 a=b=c", "node 1 0 0 a=b  c=d", "node 1 0 0 a:b=c", "node 1 0 0 a=b%3Ac", "node 1 0 0 a=%2f", "node 1 0 0 a=%41", "node 1 0 0 %61=b", "node 1 0 0 a%=b", "node 1 0 0 a=b~", "node 1 0 0 a=é", "node 1 0 9223372036854775808", "+node 1 0 0", "-node 1",
	"way 1", "way 1 ", "way 1 1,", "way 1 ,1", "way 1 1,,2", "way 1 1, 2", "way 1 1;2", "way 1 01", "way 1 ~,1", "way 1 1,~", "way 1 n1", "way 1 1 2", "way 1 ~ ~", "way x 1,2", "way 1 1,2 a",
	"rel 1", "rel 1 ", "rel 1 1:x", "rel 1 r1:x", "rel 1 n1", "rel 1 n1:", "rel 1 n:x", "rel 1 n1:x:y", "rel 1 n1:x,", "rel 1 ,n1:x", "rel 1 n1:x,~", "rel 1 N1:x", "rel 1 nn1:x", "rel 1 wn1:x", "rel 1 n01:x", "rel 1 n1:x%2f", "rel 1 n1:a b", "rel 1 ~,~", "rel 1 n1:~~", "rel 1 n1:x%3a", "rel 1 ~ a=b c",
}

func TestP17_3WrongLines(t *testing.T) {
	for _, s := range wrongLines {
		for _, y := range []struct {
			s    string
			want int
		}{{s + "\n", 1}, {sampleText + s + "\n", 8}, {"node 5 0 0\n" + s + "\n" + sampleText, 2}, {s + "\nx\n", 1}, {sampleText + s + "\nx", 8}} {
			if d, n, err := ParseData(y.s); err != api.ErrForm || n != y.want || !data.Same(d, api.Data{}) {
				t.Errorf("ParseData(%q) returns %v, %d, %d; the wrong line is %d", y.s, d, n, err, y.want)
			}
		}
	}
	// A last line without a line feed is not the line of an object.
	for s, want := range map[string]int{"node 1 0 0": 1, strings.TrimSuffix(sampleText, "\n"): 7, sampleText + "x": 8, sampleText + " ": 8, "x\nnode 1 0 0": 1, "\n": 1, "\n\n": 1, "node 1 0 0\n\n": 2} {
		if d, n, err := ParseData(s); err != api.ErrForm || n != want || !data.Same(d, api.Data{}) {
			t.Errorf("ParseData(%q) returns %v, %d, %d, not line %d", s, d, n, err, want)
		}
	}
}

func TestP17_3Check(t *testing.T) {
	var many strings.Builder
	for i := range api.MaxObject + 1 {
		many.WriteString("node " + strconv.Itoa(i+1) + " 0 0\n")
	}
	for _, y := range []struct {
		s     string
		lines int
		want  api.Errno
	}{
		// The order of the kinds comes before the check, and after the lines themselves.
		{"node 1 0 0\nnode 2 0 0\nway 1 1,2\nnode 3 0 0\n", 4, api.ErrForm}, {"way 1 1,2\nnode 1 0 0\nnode 2 0 0\n", 3, api.ErrForm}, {"rel 1 ~\nway 1 1,2\n", 2, api.ErrForm}, {"rel 1 ~\nnode 1 0 0\nx\n", 3, api.ErrForm}, {"node 1 0 0\nrel 1 ~\nway 1 1\n", 3, api.ErrForm}, {"way 0 ~\nnode 0 0 0\n", 2, api.ErrForm},
		{"node 0 0 0\n", 1, api.ErrRange}, {"node 1 0 0\nnode 1 0 0\n", 2, api.ErrOrder}, {"node 2 0 0\nnode 1 0 0\nway 1 1,2\n", 3, api.ErrOrder}, {"node -1 0 0\n", 1, api.ErrRange}, {"node 1 1800000001 0\n", 1, api.ErrCoord}, {"node 1 0 0 ~=~\n", 1, api.ErrTag}, {"node 1 0 0 b=1 a=2\nnode 2 0 0\n", 2, api.ErrOrder}, {"node 1 0 0 a=1 a=1\n", 1, api.ErrOrder},
		{"way 1 ~\n", 1, api.ErrShort}, {"node 1 0 0\nway 1 1\n", 2, api.ErrShort}, {"node 1 0 0\nway 1 1,2\n", 2, api.ErrRef}, {"rel 1 n1:~\n", 1, api.ErrRef}, {"node 1 0 0 " + strings.Repeat("x", 65) + "=1\n", 1, api.ErrTag}, {"rel 9223372036854775807 ~\n", 1, api.ErrRange},
		{many.String(), api.MaxObject + 1, api.ErrLong},
	} {
		if d, n, err := ParseData(y.s); err != y.want || n != y.lines || !data.Same(d, api.Data{}) {
			t.Errorf("ParseData(%.60q) returns %d, %d, not %d, %d", y.s, n, err, y.lines, y.want)
		}
	}
}

func sameChange(a, b api.Change) bool {
	all := func(c api.Change) api.Data {
		return api.Data{Nodes: []api.Node{c.Node}, Ways: []api.Way{c.Way}, Rels: []api.Rel{c.Rel}}
	}
	return a.Op == b.Op && a.Kind == b.Kind && data.Same(all(a), all(b))
}

func TestP17_3ParseChanges(t *testing.T) {
	l, n, err := ParseChanges("+node 1 0 0\n-rel 7\n-way 5\n+rel 0 w-1:~ ~=~ a=b a=b\n-node -9\n+way 3 ~\n")
	want := []api.Change{
		{Op: api.OpPut, Kind: api.KNode, Node: api.Node{ID: 1}}, {Op: api.OpDelete, Kind: api.KRel, Rel: api.Rel{ID: 7}}, {Op: api.OpDelete, Kind: api.KWay, Way: api.Way{ID: 5}},
		{Op: api.OpPut, Kind: api.KRel, Rel: api.Rel{Members: []api.Member{{Ref: api.Ref{Kind: api.KWay, ID: -1}}}, Tags: []api.Tag{{}, {Key: "a", Val: "b"}, {Key: "a", Val: "b"}}}},
		{Op: api.OpDelete, Kind: api.KNode, Node: api.Node{ID: -9}}, {Op: api.OpPut, Kind: api.KWay, Way: api.Way{ID: 3}},
	}
	if err != api.OK || n != 6 || !slices.EqualFunc(l, want, sameChange) {
		t.Errorf("ParseChanges returns %v, %d, %d", l, n, err)
	}
	if l, n, err := ParseChanges(""); err != api.OK || n != 0 || len(l) != 0 {
		t.Errorf("ParseChanges of no lines returns %v, %d, %d", l, n, err)
	}
	wrong := []string{"", "+", "-", "node 1 0 0", "-node", "-node ", "-node 01", "-node 1 ", "-node  1", "- node 1", "-node 1 0 0", "-nodes 1", "-x 1", "- 1", "-way 1 1,2", "--way 1", "+-way 1", "-+way 1", "++way 1 ~", "+ way 1 ~", "*way 1", "-node 9223372036854775808", "-rel ~"}
	for _, s := range wrongLines {
		wrong = append(wrong, "+"+s)
	}
	for _, s := range wrong {
		for _, y := range []struct {
			s    string
			want int
		}{{s + "\n", 1}, {"-way 1\n+way 1 ~\n" + s + "\n", 3}, {s + "\n-way 1\n\n", 1}} {
			if l, n, err := ParseChanges(y.s); err != api.ErrForm || n != y.want || len(l) != 0 {
				t.Errorf("ParseChanges(%q) returns %v, %d, %d, not line %d", y.s, l, n, err, y.want)
			}
		}
	}
	if l, n, err := ParseChanges("-way 1\n-way 1"); err != api.ErrForm || n != 2 || len(l) != 0 {
		t.Errorf("ParseChanges without the last line feed returns %v, %d, %d", l, n, err)
	}
}

func TestP17_3ManyChanges(t *testing.T) {
	most := strings.Repeat("-way 5\n", api.MaxObject)
	if l, n, err := ParseChanges(most); err != api.OK || n != api.MaxObject || len(l) != api.MaxObject {
		t.Errorf("ParseChanges of most lines returns %d changes, %d, %d", len(l), n, err)
	}
	// The number of lines comes before their form, and a rest without a line feed is a line.
	for _, s := range []string{"-way 5\n", "x\n", "\n", "x", "-way 5\n-way 5\n-way 5\n"} {
		if l, n, err := ParseChanges(most + s); err != api.ErrLong || n != api.MaxObject+1 || len(l) != 0 {
			t.Errorf("ParseChanges of too many lines returns %d changes, %d, %d", len(l), n, err)
		}
		if l, n, err := ParseChanges(s + "?\n" + most); err != api.ErrLong || n != api.MaxObject+1 || len(l) != 0 {
			t.Errorf("ParseChanges of too many lines after %q returns %d changes, %d, %d", s, len(l), n, err)
		}
	}
}

// text returns a short string of any bytes, often ones that are escaped.
func text(r *rand.Rand) string {
	const letters = "ab:%~= ,\n\xff0A"
	var out []byte
	for range r.Intn(4) {
		out = append(out, letters[r.Intn(len(letters))])
	}
	return string(out)
}

func randomTags(r *rand.Rand) (out []api.Tag) {
	for i := range r.Intn(3) {
		out = append(out, api.Tag{Key: string(rune('a'+i)) + text(r), Val: text(r)})
	}
	return out
}

// random returns a valid dataset.
func random(r *rand.Rand) (d api.Data) {
	n := 1 + r.Intn(4)
	for i := range n {
		d.Nodes = append(d.Nodes, api.Node{ID: i + 1, At: api.Coord{Lon: r.Intn(2*api.MaxLon+1) - api.MaxLon, Lat: r.Intn(19) - 9}, Tags: randomTags(r)})
	}
	for i := range r.Intn(3) {
		w := api.Way{ID: 2*i + 1, Tags: randomTags(r)}
		for range 2 + r.Intn(3) {
			w.Nodes = append(w.Nodes, 1+r.Intn(n))
		}
		d.Ways = append(d.Ways, w)
	}
	for i := range r.Intn(3) {
		x := api.Rel{ID: 3*i + 1, Tags: randomTags(r)}
		for range r.Intn(3) {
			m := api.Member{Ref: api.Ref{Kind: api.KNode, ID: 1 + r.Intn(n)}, Role: text(r)}
			if len(d.Ways) > 0 && r.Intn(2) == 0 {
				m.Ref = api.Ref{Kind: api.KWay, ID: 1}
			}
			x.Members = append(x.Members, m)
		}
		d.Rels = append(d.Rels, x)
	}
	return d
}

// randomChanges returns the changes that put or delete the objects of a dataset.
func randomChanges(r *rand.Rand) (out []api.Change) {
	d := random(r)
	for _, n := range d.Nodes {
		out = append(out, api.Change{Op: api.OpPut, Kind: api.KNode, Node: n}, api.Change{Op: api.OpDelete, Kind: api.KNode, Node: api.Node{ID: r.Intn(99) - 49}})
	}
	for _, w := range d.Ways {
		out = append(out, api.Change{Op: api.OpPut, Kind: api.KWay, Way: w}, api.Change{Op: api.OpDelete, Kind: api.KWay, Way: api.Way{ID: w.ID}})
	}
	for _, x := range d.Rels {
		out = append(out, api.Change{Op: api.OpPut, Kind: api.KRel, Rel: x}, api.Change{Op: api.OpDelete, Kind: api.KRel, Rel: api.Rel{ID: x.ID}})
	}
	r.Shuffle(len(out), func(i, j int) { out[i], out[j] = out[j], out[i] })
	return out
}

func TestP17_4Recovered(t *testing.T) {
	r := rand.New(rand.NewSource(1))
	for range 4000 {
		d := random(r)
		if data.Check(d) != api.OK {
			t.Fatalf("%v is not valid", d)
		}
		s := Data(d)
		if back, n, err := ParseData(s); err != api.OK || n != strings.Count(s, "\n") || !data.Same(back, d) {
			t.Fatalf("ParseData(%q) returns %v, %d, %d", s, back, n, err)
		}
		l := randomChanges(r)
		s = Changes(l)
		if back, n, err := ParseChanges(s); err != api.OK || n != len(l) || !slices.EqualFunc(back, l, sameChange) {
			t.Fatalf("ParseChanges(%q) returns %v, %d, %d", s, back, n, err)
		}
		w := text(r) + text(r)
		if back, ok := Unword(Word(w)); back != w || !ok {
			t.Fatalf("Unword(%q) is %q, %v", Word(w), back, ok)
		}
	}
}

// TestP17_3OneText changes texts a little: those that are still read must be the texts of what was read.
func TestP17_3OneText(t *testing.T) {
	const letters = "0123456789ab~%:=,- \n\xc3+nwFf"
	r := rand.New(rand.NewSource(2))
	read := 0
	for range 60000 {
		s := []byte(Data(random(r)))
		if r.Intn(2) == 0 {
			s = []byte(Changes(randomChanges(r)))
		}
		for range 1 + r.Intn(2) {
			c := letters[r.Intn(len(letters))]
			switch i := r.Intn(len(s)); r.Intn(3) {
			case 0:
				s[i] = c
			case 1:
				s = slices.Insert(s, i, c)
			case 2:
				s = append(slices.Delete(s, i, i+1), '\n')
			}
		}
		if d, n, err := ParseData(string(s)); err == api.OK {
			read++
			if Data(d) != string(s) || n != strings.Count(string(s), "\n") {
				t.Fatalf("%q was read as %q", s, Data(d))
			}
		}
		if l, n, err := ParseChanges(string(s)); err == api.OK {
			read++
			if Changes(l) != string(s) || n != len(l) {
				t.Fatalf("%q was read as %q", s, Changes(l))
			}
		}
	}
	if read < 2000 {
		t.Errorf("only %d texts were read", read)
	}
}

// TestP17_Aliasing checks that formatting changes nothing.
func TestP17_Aliasing(t *testing.T) {
	d := sample()
	Data(d)
	Changes([]api.Change{{Op: api.OpPut, Kind: api.KNode, Node: d.Nodes[0]}, {Op: api.OpPut, Kind: api.KWay, Way: d.Ways[0]}, {Op: api.OpPut, Kind: api.KRel, Rel: d.Rels[0]}})
	if !reflect.DeepEqual(d, sample()) {
		t.Errorf("the dataset became %v", d)
	}
}
