package words

import (
	"math/rand"
	"slices"
	"strings"
	"testing"
)

// letters has, for each byte c from 128 to 191, what replaces the bytes 195, c; a dot where nothing does.
func letters() [64]string {
	var l [64]string
	for i := range l {
		l[i] = "."
	}
	set := func(s string, from, to int) {
		for c := from; c <= to; c++ {
			l[c-128] = s
		}
	}
	set("a", 128, 133)
	set("a", 160, 165)
	set("c", 135, 135)
	set("c", 167, 167)
	set("e", 136, 139)
	set("e", 168, 171)
	set("i", 140, 143)
	set("i", 172, 175)
	set("n", 145, 145)
	set("n", 177, 177)
	set("o", 146, 150)
	set("o", 152, 152)
	set("o", 178, 182)
	set("o", 184, 184)
	set("u", 153, 156)
	set("u", 185, 188)
	set("ss", 159, 159)
	return l
}

// foldByText is Fold, byte by byte as the chapter says it.
func foldByText(s string) string {
	table := letters()
	var out []byte
	for i := 0; i < len(s); i++ {
		c := s[i]
		switch {
		case c >= 'A' && c <= 'Z':
			out = append(out, c+32)
		case c == 195 && i+1 < len(s) && s[i+1] >= 128 && s[i+1] <= 191 && table[s[i+1]-128] != ".":
			out = append(out, table[s[i+1]-128]...)
			i++
		default:
			out = append(out, c)
		}
	}
	return string(out)
}

func TestP51_1EveryPairOfBytes(t *testing.T) {
	for a := range 256 {
		for b := range 256 {
			s := string([]byte{byte(a), byte(b)})
			if got, want := Fold(s), foldByText(s); got != want {
				t.Fatalf("Fold(%q) is %q, not %q", s, got, want)
			}
		}
	}
}

func TestP51_1Fold(t *testing.T) {
	for _, x := range [][2]string{
		{"", ""}, {"Abc Xyz 09", "abc xyz 09"}, {"@AZ[`az{", "@az[`az{"}, {"\xc3\x89cole", "ecole"}, {"Stra\xc3\x9fe", "strasse"}, {"\xc3", "\xc3"}, {"\xc3\xc3\xa9", "\xc3e"}, {"\xc3\xa9\xa9", "e\xa9"}, {"\xe2\xc3\xa9", "\xe2e"}, {"\xc3\x83\xc2\xa9", "a\xc2\xa9"},
		{"\xc3\x86\xc3\xa6\xc3\x90\xc3\x97\xc3\x9d\xc3\x9e\xc3\xb7\xc3\xbf", "\xc3\x86\xc3\xa6\xc3\x90\xc3\x97\xc3\x9d\xc3\x9e\xc3\xb7\xc3\xbf"}, {"\xc5\x81\xe2\x82\xac\xff\x80", "\xc5\x81\xe2\x82\xac\xff\x80"}, {"\xef\xbf\xbdA", "\xef\xbf\xbda"}, {"\xf0\x9f\x98\x80A\x00B", "\xf0\x9f\x98\x80a\x00b"},
	} {
		if got := Fold(x[0]); got != x[1] {
			t.Errorf("Fold(%q) is %q, not %q", x[0], got, x[1])
		}
	}
}

func TestP51_2Split(t *testing.T) {
	for _, x := range []struct {
		s    string
		want []string
	}{
		{"", nil}, {" .,-'", nil}, {"a", []string{"a"}}, {" St. John's 5a", []string{"St", "John", "s", "5a"}}, {"a-b_c", []string{"a", "b", "c"}}, {"  x  ", []string{"x"}}, {"\xc3\xa9\xff!\x80", []string{"\xc3\xa9\xff", "\x80"}}, {"aZ09@[`{/:z", []string{"aZ09", "z"}}, {"a\x00b\x7fc\x80", []string{"a", "b", "c\x80"}}, {"\xe2\x82 \xe2\x82\xac", []string{"\xe2\x82", "\xe2\x82\xac"}}, {"x\xc2\x80y", []string{"x\xc2\x80y"}},
	} {
		if got := Split(x.s); !slices.Equal(got, x.want) {
			t.Errorf("Split(%q) is %q", x.s, got)
		}
	}
	for c := range 256 {
		s := string([]byte{'x', byte(c), 'y'})
		word := c >= 'a' && c <= 'z' || c >= 'A' && c <= 'Z' || c >= '0' && c <= '9' || c >= 128
		if got := Split(s); word && !slices.Equal(got, []string{s}) || !word && !slices.Equal(got, []string{"x", "y"}) {
			t.Errorf("Split(%q) is %q", s, got)
		}
	}
}

func TestP51_2Expand(t *testing.T) {
	for _, x := range [][2]string{
		{"st", "street"}, {"rd", "road"}, {"ave", "avenue"}, {"sq", "square"}, {"n", "north"}, {"s", "south"}, {"e", "east"}, {"w", "west"}, {"ste", "saint"},
		{"St", "St"}, {"N", "N"}, {"street", "street"}, {"", ""}, {"sta", "sta"}, {"av", "av"}, {"north", "north"}, {"x", "x"}, {"st ", "st "},
	} {
		if got := Expand(x[0]); got != x[1] {
			t.Errorf("Expand(%q) is %q, not %q", x[0], got, x[1])
		}
	}
}

func TestP51_2Of(t *testing.T) {
	for _, x := range []struct {
		s    string
		want []string
	}{
		{"\xc3\x89cole St. 5", []string{"ecole", "street", "5"}}, {"W 5 AVE", []string{"west", "5", "avenue"}}, {"", nil}, {"...", nil}, {"St\xc3\x89", []string{"saint"}}, {"N.S.E.W.", []string{"north", "south", "east", "west"}},
		{strings.Repeat("a ", 15) + "b", append(slices.Repeat([]string{"a"}, 15), "b")}, {strings.Repeat("a ", 15) + "st b", append(slices.Repeat([]string{"a"}, 15), "street")},
	} {
		if got := Of(x.s); !slices.Equal(got, x.want) {
			t.Errorf("Of(%q) is %q", x.s, got)
		}
	}
}

// randomName returns a string of bytes among which the interesting ones are frequent.
func randomName(r *rand.Rand) string {
	const some = "aAzZ09 .nSeWtTsTqQrdDvV@[`{\x7f\x80\x85\x89\x96\x97\x98\x9f\xa9\xb1\xb7\xbf\xc2\xc3\xc3\xc3\xc3\xc4\xe2\xf0\xff"
	b := make([]byte, r.Intn(40))
	for i := range b {
		b[i] = some[r.Intn(len(some))]
	}
	return string(b)
}

// swapCase exchanges ASCII capitals and small letters.
func swapCase(s string) string {
	b := []byte(s)
	for i, c := range b {
		if c >= 'a' && c <= 'z' || c >= 'A' && c <= 'Z' {
			b[i] = c ^ 32
		}
	}
	return string(b)
}

func TestP51_3Properties(t *testing.T) {
	r := rand.New(rand.NewSource(1))
	for range 30000 {
		s := randomName(r)
		f := Fold(s)
		if f != foldByText(s) || Fold(f) != f || Fold(swapCase(s)) != f {
			t.Fatalf("Fold(%q) is %q", s, f)
		}
		l := Of(s)
		if slices.Contains(l, "") || len(l) > 16 || !slices.Equal(Of(strings.Join(l, " ")), l) {
			t.Fatalf("Of(%q) is %q", s, l)
		}
		want := Split(f)
		for i := range want {
			want[i] = Expand(want[i])
		}
		if !slices.Equal(l, want[:min(16, len(want))]) {
			t.Fatalf("Of(%q) is %q", s, l)
		}
	}
}
