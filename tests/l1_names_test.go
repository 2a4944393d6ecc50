package tests

import (
	"regexp"
	"slices"
	"strings"
	"testing"

	"loop.example/zonefiles/impl"
)

// Names at a limit of chapter 1, and one past it.
const (
	label10    = "abcdefghij."
	label11    = "abcdefghijk."
	labels8    = "a.b.c.d.e.f.g.h."
	labels9    = "a.b.c.d.e.f.g.h.i."
	labels8All = "*.b.c.d.e.f.g.h."
)

var (
	name60 = strings.Repeat(label10, 5) + "abcd."
	name61 = strings.Repeat(label10, 5) + "abcde."
)

// validNames are names at the limits and the edges that chapter 1 names.
var validNames = []string{
	".", "a.", "b.", "a.b.", "xa.b.", "www.a.b.", "*.", "*.a.", "*.a.b.", "-.", "_.", "0.", "9.", "a-b_0.", "x_1-.",
	label10, labels8, labels8All, name60, "*." + strings.Repeat(label10, 5) + "ab.",
}

// invalidNames are no names.
var invalidNames = []string{
	"", "a", "a.b", "..", ".a.", "a..", "a..b.", ".a", "@", "@.", "A.", "a.B.", " a.", "a .", "a. ", "a b.", "\n.", "a.\n",
	"a.*.", "*.*.", "**.", "*a.", "a*.", "*", "a.*", "a.*.b.",
	label11, "a." + label11, labels9, "*." + labels8, name61, strings.Repeat("a.", 40), strings.Repeat("a", 100000), strings.Repeat(".", 100000),
	"é.", "ａ.", "\u212a.", "\u0130.", "a\x00.", "\xff.", "\xe9.", "\ufffd.", "a\\.", "a/.", "a:.", "a`.", "a{.", "a,.", "a;.", "a\".",
}

// namePattern is chapter 1's definition of a name, but for its length.
var namePattern = regexp.MustCompile(`\A(\.|(\*|[a-z0-9_-]{1,10})\.([a-z0-9_-]{1,10}\.){0,7})\z`)

func isName(s string) bool { return len(s) <= 60 && namePattern.MatchString(s) }

// textsOf returns all texts of at most most bytes of alphabet.
func textsOf(alphabet string, most int) []string {
	all := []string{""}
	last := all
	for range most {
		var next []string
		for _, s := range last {
			for i := range len(alphabet) {
				next = append(next, s+alphabet[i:i+1])
			}
		}
		all = append(all, next...)
		last = next
	}
	return all
}

// someNames returns names that have many ends in common.
func someNames() []string {
	names := slices.Clone(validNames)
	for _, s := range textsOf("ab*.", 6) {
		if isName(s) {
			names = append(names, s)
		}
	}
	return names
}

// plainLabels returns the labels of a name that is known to be valid.
func plainLabels(s string) []string {
	if s == "." {
		return nil
	}
	return strings.Split(strings.TrimSuffix(s, "."), ".")
}

// checkText reports a name and a truth that are not the wanted ones; as wanted, the empty text stands for false.
func checkText(t *testing.T, got string, ok bool, want string, call string, arguments ...string) {
	t.Helper()
	if got != want || ok != (want != "") {
		t.Errorf("%s of %.100q = %.100q, %v; want %.100q, %v", call, arguments, got, ok, want, want != "")
	}
}

func TestNameLimits(t *testing.T) {
	if impl.MaxLabel != 10 || impl.MaxLabels != 8 || impl.MaxName != 60 {
		t.Error("a limit of names is not as the document says")
	}
	if len(name60) != 60 || len(name61) != 61 || len(label10) != 11 || len(label11) != 12 {
		t.Error("a text of the tests has not the length that it is meant to have")
	}
}

func TestNameValid(t *testing.T) {
	for _, s := range validNames {
		if !impl.NameValid(s) {
			t.Errorf("NameValid(%.100q) = false", s)
		}
	}
	for _, s := range invalidNames {
		if impl.NameValid(s) {
			t.Errorf("NameValid(%.100q) = true", s)
		}
	}
}

func TestNameValidOfEachByte(t *testing.T) {
	const plain = "abcdefghijklmnopqrstuvwxyz0123456789-_"
	for b := range 256 {
		c := string([]byte{byte(b)})
		inLabel := strings.Contains(plain, c)
		for s, want := range map[string]bool{
			c + ".":          inLabel || c == "*",
			c + ".a.":        inLabel || c == "*",
			"a." + c + ".":   inLabel,
			"x" + c + ".":    inLabel,
			c + "x.":         inLabel,
			"a.x" + c + "y.": inLabel || c == ".",
			"a" + c:          c == ".",
		} {
			if impl.NameValid(s) != want {
				t.Errorf("NameValid(%.100q) = %v", s, !want)
			}
		}
	}
}

func TestNameValidAsDefined(t *testing.T) {
	for _, s := range textsOf("aZ9*.-", 6) {
		if impl.NameValid(s) != isName(s) {
			t.Errorf("NameValid(%.100q) = %v", s, !isName(s))
		}
	}
	for label := 1; label <= 12; label++ {
		for count := 1; count <= 10; count++ {
			s := strings.Repeat(strings.Repeat("z", label)+".", count)
			if impl.NameValid(s) != isName(s) {
				t.Errorf("NameValid(%.100q) = %v", s, !isName(s))
			}
		}
	}
}

func TestLabelsOf(t *testing.T) {
	for s, want := range map[string][]string{
		".":        nil,
		"b.":       {"b"},
		"*.":       {"*"},
		"www.a.b.": {"www", "a", "b"},
		"*.a.a.":   {"*", "a", "a"},
		labels8:    {"a", "b", "c", "d", "e", "f", "g", "h"},
		name60:     {"abcdefghij", "abcdefghij", "abcdefghij", "abcdefghij", "abcdefghij", "abcd"},
	} {
		if got := impl.LabelsOf(s); !slices.Equal(got, want) {
			t.Errorf("LabelsOf(%.100q) = %.100q", s, got)
		}
	}
	for _, s := range invalidNames {
		if got := impl.LabelsOf(s); len(got) != 0 {
			t.Errorf("LabelsOf(%.100q) = %.100q", s, got)
		}
	}
	for _, s := range someNames() {
		if got := impl.LabelsOf(s); !slices.Equal(got, plainLabels(s)) {
			t.Errorf("LabelsOf(%.100q) = %.100q", s, got)
		}
	}
}

func TestLabelsOfAreNew(t *testing.T) {
	first := impl.LabelsOf("www.a.b.")
	second := impl.LabelsOf("www.a.b.")
	_ = append(first[:1], "x", "y", "z")
	if !slices.Equal(second, []string{"www", "a", "b"}) {
		t.Errorf("a result changed to %.100q", second)
	}
	if got := impl.LabelsOf("www.a.b."); !slices.Equal(got, []string{"www", "a", "b"}) {
		t.Errorf("LabelsOf = %.100q after its result was written to", got)
	}
}

func TestNameOf(t *testing.T) {
	long := "abcdefghij"
	for _, c := range []struct {
		labels []string
		want   string
	}{
		{nil, "."},
		{[]string{}, "."},
		{[]string{"b"}, "b."},
		{[]string{"*"}, "*."},
		{[]string{"*", "a"}, "*.a."},
		{[]string{"www", "a", "b"}, "www.a.b."},
		{[]string{long}, label10},
		{[]string{"a", "b", "c", "d", "e", "f", "g", "h"}, labels8},
		{[]string{"*", "b", "c", "d", "e", "f", "g", "h"}, labels8All},
		{[]string{long, long, long, long, long, "abcd"}, name60},
		{[]string{long, long, long, long, long, "abcde"}, ""},
		{[]string{long, long, long, long, long, long, long, long}, ""},
		{[]string{"a", "b", "c", "d", "e", "f", "g", "h", "i"}, ""},
		{[]string{"*", "a", "b", "c", "d", "e", "f", "g", "h"}, ""},
		{make([]string, 100000), ""},
		{[]string{"abcdefghijk"}, ""},
		{[]string{strings.Repeat("a", 100000)}, ""},
		{[]string{""}, ""},
		{[]string{"", ""}, ""},
		{[]string{"", "a"}, ""},
		{[]string{"a", ""}, ""},
		{[]string{"a", "", "b"}, ""},
		{[]string{"."}, ""},
		{[]string{"a."}, ""},
		{[]string{"a.b"}, ""},
		{[]string{"*.a"}, ""},
		{[]string{"a", "*"}, ""},
		{[]string{"*", "*"}, ""},
		{[]string{"**"}, ""},
		{[]string{"A"}, ""},
		{[]string{"@"}, ""},
		{[]string{"a", "B"}, ""},
		{[]string{"a b"}, ""},
		{[]string{"é"}, ""},
		{[]string{"\xff"}, ""},
	} {
		given := slices.Clone(c.labels)
		got, ok := impl.NameOf(c.labels)
		checkText(t, got, ok, c.want, "NameOf")
		if !slices.Equal(given, c.labels) {
			t.Errorf("NameOf changed %.100q to %.100q", given, c.labels)
		}
	}
}

func TestNameOfLeavesWhatIsBehindTheLabels(t *testing.T) {
	all := []string{"a", "b", "c"}
	got, ok := impl.NameOf(all[:1])
	checkText(t, got, ok, "a.", "NameOf")
	if !slices.Equal(all, []string{"a", "b", "c"}) {
		t.Errorf("NameOf changed %.100q", all)
	}
}

func TestNameOfLabelsOf(t *testing.T) {
	for _, s := range someNames() {
		got, ok := impl.NameOf(impl.LabelsOf(s))
		checkText(t, got, ok, s, "NameOf(LabelsOf)")
	}
}

func TestReadName(t *testing.T) {
	for _, c := range []struct{ text, origin, want string }{
		{"www", "a.b.", "www.a.b."},
		{"WwW", "a.b.", "www.a.b."},
		{"x.y", "a.b.", "x.y.a.b."},
		{"AZ-_09", "a.b.", "az-_09.a.b."},
		{"@", "a.b.", "a.b."},
		{"@", ".", "."},
		{"@", "*.a.", "*.a."},
		{"@", name60, name60},
		{".", "a.b.", "."},
		{".", ".", "."},
		{"c.", "a.b.", "c."},
		{"X.Y.", "a.b.", "x.y."},
		{"a.b.", "a.b.", "a.b."},
		{"www", ".", "www."},
		{"X.Y", ".", "x.y."},
		{"*", "a.b.", "*.a.b."},
		{"*", ".", "*."},
		{"*.", "a.b.", "*."},
		{"*.X", "a.b.", "*.x.a.b."},
		{"c.", "*.a.", "c."},
		{"x", "*.a.", ""},
		{"*", "*.a.", ""},
		{"x.*", "a.b.", ""},
		{"x.*.", "a.b.", ""},
		{"**", "a.b.", ""},
		{"", "a.b.", ""},
		{"", ".", ""},
		{"..", "a.b.", ""},
		{"x..", "a.b.", ""},
		{".x", "a.b.", ""},
		{"x..y", "a.b.", ""},
		{"@.", "a.b.", ""},
		{"@@", "a.b.", ""},
		{"x.@", "a.b.", ""},
		{"x@", ".", ""},
		{" ", "a.b.", ""},
		{"x y", "a.b.", ""},
		{"x\n", "a.b.", ""},
		{"É", "a.b.", ""},
		{"\u212a", "a.b.", ""},
		{"\u0130.", "a.b.", ""},
		{"\xc1", "a.b.", ""},
		{"a\xff.", "a.b.", ""},
	} {
		got, ok := impl.ReadName(c.text, c.origin)
		checkText(t, got, ok, c.want, "ReadName", c.text, c.origin)
	}
}

func TestReadNameAtLimits(t *testing.T) {
	long := strings.TrimSuffix(name60, ".")
	for _, c := range []struct{ text, origin, want string }{
		{name60, "a.b.", name60},
		{strings.ToUpper(name60), "a.b.", name60},
		{name61, "a.b.", ""},
		{long, ".", name60},
		{long + "e", ".", ""},
		{long, "a.", ""},
		{long[:57], "a.", long[:57] + ".a."},
		{long[:58], "a.", ""},
		{"abcd", strings.Repeat(label10, 5), "abcd." + strings.Repeat(label10, 5)},
		{"abcde", strings.Repeat(label10, 5), ""},
		{"abcdefghij", "b.", label10 + "b."},
		{"abcdefghijk", "b.", ""},
		{label11, "b.", ""},
		{"a.b.c.d.e.f.g", "h.", labels8},
		{"a.b.c.d.e.f.g.h", "i.", ""},
		{"a", "b.c.d.e.f.g.h.", labels8},
		{"*", "b.c.d.e.f.g.h.", labels8All},
		{"a", labels8, ""},
		{"*", labels8, ""},
		{labels8, labels8, labels8},
		{labels9, ".", ""},
		{"a", name60, ""},
		{strings.Repeat("a", 100000), "a.b.", ""},
		{strings.Repeat("A.", 100000), "a.b.", ""},
	} {
		got, ok := impl.ReadName(c.text, c.origin)
		checkText(t, got, ok, c.want, "ReadName", c.text, c.origin)
	}
}

func TestReadNameOfEachByte(t *testing.T) {
	const plain = "abcdefghijklmnopqrstuvwxyz0123456789-_*"
	for b := range 256 {
		c := string([]byte{byte(b)})
		want := ""
		switch {
		case c == "@":
			want = "a.b."
		case c == ".":
			want = "."
		case 'A' <= b && b <= 'Z':
			want = string([]byte{byte(b) + 32}) + ".a.b."
		case strings.Contains(plain, c):
			want = c + ".a.b."
		}
		got, ok := impl.ReadName(c, "a.b.")
		checkText(t, got, ok, want, "ReadName", c)
	}
}

func TestReadNameNeedsAnOrigin(t *testing.T) {
	for _, origin := range invalidNames {
		for _, text := range []string{"x", "@", "c.", ".", "*", ""} {
			got, ok := impl.ReadName(text, origin)
			checkText(t, got, ok, "", "ReadName", text, origin)
		}
	}
}

func TestReadNameAsDefined(t *testing.T) {
	for origin, behind := range map[string]string{".": ".", "a.": ".a.", "b.a.": ".b.a.", "*.a.": ".*.a."} {
		for _, text := range textsOf("aB@*.", 5) {
			want := strings.ToLower(text)
			if text == "@" {
				want = origin
			} else if !strings.HasSuffix(text, ".") {
				want += behind
			}
			if text == "" || !isName(want) {
				want = ""
			}
			got, ok := impl.ReadName(text, origin)
			checkText(t, got, ok, want, "ReadName", text, origin)
		}
	}
}

func TestShortName(t *testing.T) {
	for _, c := range []struct{ s, origin, want string }{
		{"www.a.b.", "a.b.", "www"},
		{"x.y.a.b.", "a.b.", "x.y"},
		{"a.b.", "a.b.", "@"},
		{".", ".", "@"},
		{"*.", "*.", "@"},
		{"c.", "a.b.", "c."},
		{"b.", "a.b.", "b."},
		{".", "a.b.", "."},
		{"xa.b.", "a.b.", "xa.b."},
		{"xb.", "b.", "xb."},
		{"a.b.a.b.", "a.b.", "a.b"},
		{"a.a.", "a.", "a"},
		{"a.b.c.", "a.b.", "a.b.c."},
		{"*.a.b.", "a.b.", "*"},
		{"*.x.a.b.", "a.b.", "*.x"},
		{"x.a.", "*.a.", "x.a."},
		{"*.a.", "*.a.", "@"},
		{"a.b.", ".", "a.b."},
		{"*.", ".", "*."},
		{labels8, "h.", "a.b.c.d.e.f.g"},
		{name60, "abcd.", name60[:54]},
		{name60, ".", name60},
		{name60, name60, "@"},
	} {
		got, ok := impl.ShortName(c.s, c.origin)
		checkText(t, got, ok, c.want, "ShortName", c.s, c.origin)
	}
	for _, bad := range invalidNames {
		for _, good := range []string{".", "a.b."} {
			got, ok := impl.ShortName(bad, good)
			checkText(t, got, ok, "", "ShortName", bad, good)
			got, ok = impl.ShortName(good, bad)
			checkText(t, got, ok, "", "ShortName", good, bad)
		}
		got, ok := impl.ShortName(bad, bad)
		checkText(t, got, ok, "", "ShortName", bad, bad)
	}
}

func TestShortNamesAreReadBack(t *testing.T) {
	names := someNames()
	for _, s := range names {
		for _, origin := range names {
			short, ok := impl.ShortName(s, origin)
			if !ok || len(short) > len(s) {
				t.Fatalf("ShortName(%.100q, %.100q) = %.100q, %v", s, origin, short, ok)
			}
			if got, ok := impl.ReadName(short, origin); !ok || got != s {
				t.Fatalf("ReadName(%.100q, %.100q) = %.100q, %v; want %.100q", short, origin, got, ok, s)
			}
			inside := origin != "." && strings.HasSuffix(s, "."+origin)
			if inside != (short != "@" && !strings.HasSuffix(short, ".")) {
				t.Fatalf("ShortName(%.100q, %.100q) = %.100q", s, origin, short)
			}
		}
	}
}

func TestNameBeforeInARow(t *testing.T) {
	row := []string{
		".", "*.", "-.", "-a.", "0.", "9.", "_.", "a.", "*.a.", "-.a.", "0.a.", "9.a.", "_.a.", "a.a.", "b.a.", "a-.", "aa.", "ab.",
		"b.", "*.b.", "a.b.", "*.a.b.", "www.a.b.", "x.www.a.b.", "aa.b.", "xa.b.", "z.b.", "ba.", "c.", "a.b.c.", "a.z.",
	}
	for i, a := range row {
		for j, b := range row {
			if got := impl.NameBefore(a, b); got != (i < j) {
				t.Errorf("NameBefore(%.100q, %.100q) = %v", a, b, got)
			}
		}
	}
}

func TestNameBeforeAsDefined(t *testing.T) {
	names := someNames()
	for _, a := range names {
		first := plainLabels(a)
		slices.Reverse(first)
		for _, b := range names {
			second := plainLabels(b)
			slices.Reverse(second)
			if got := impl.NameBefore(a, b); got != (slices.Compare(first, second) < 0) {
				t.Fatalf("NameBefore(%.100q, %.100q) = %v", a, b, got)
			}
		}
	}
}

func TestNameBeforeAndIsBelowNeedNames(t *testing.T) {
	for _, bad := range invalidNames {
		for _, other := range []string{".", "a.", "zz.", bad} {
			if impl.NameBefore(bad, other) || impl.NameBefore(other, bad) {
				t.Errorf("NameBefore accepts %.100q with %.100q", bad, other)
			}
			if impl.IsBelow(bad, other) || impl.IsBelow(other, bad) {
				t.Errorf("IsBelow accepts %.100q with %.100q", bad, other)
			}
		}
	}
}

func TestIsBelow(t *testing.T) {
	for _, c := range []struct {
		s, top string
		want   bool
	}{
		{"x.a.b.", "a.b.", true},
		{"x.y.a.b.", "a.b.", true},
		{"a.b.", "a.b.", true},
		{"b.", ".", true},
		{".", ".", true},
		{"*.", ".", true},
		{name60, ".", true},
		{labels8, "h.", true},
		{"*.a.", "a.", true},
		{"*.a.", "*.a.", true},
		{"xa.b.", "a.b.", false},
		{"xb.", "b.", false},
		{"a.b.", "xa.b.", false},
		{"b.", "a.b.", false},
		{".", "b.", false},
		{"a.b.", "a.", false},
		{"a.b.c.", "a.b.", false},
		{"x.a.", "*.a.", false},
		{"a.", "*.", false},
		{"a.b.", "b.a.", false},
	} {
		if got := impl.IsBelow(c.s, c.top); got != c.want {
			t.Errorf("IsBelow(%.100q, %.100q) = %v", c.s, c.top, got)
		}
	}
	names := someNames()
	for _, s := range names {
		for _, top := range names {
			want := top == "." || s == top || strings.HasSuffix(s, "."+top)
			if got := impl.IsBelow(s, top); got != want {
				t.Fatalf("IsBelow(%.100q, %.100q) = %v", s, top, got)
			}
		}
	}
}

func TestParentAndStar(t *testing.T) {
	for _, c := range []struct{ s, parent, star string }{
		{"b.", ".", "*."},
		{"a.b.", "b.", "*.b."},
		{"www.a.b.", "a.b.", "*.a.b."},
		{"a.a.a.", "a.a.", "*.a.a."},
		{"xa.a.", "a.", "*.a."},
		{"*.", ".", "*."},
		{"*.a.", "a.", "*.a."},
		{label10, ".", "*."},
		{labels8, "b.c.d.e.f.g.h.", labels8All},
		{labels8All, "b.c.d.e.f.g.h.", labels8All},
		{name60, name60[11:], "*." + name60[11:]},
		{".", "", ""},
	} {
		got, ok := impl.ParentOf(c.s)
		checkText(t, got, ok, c.parent, "ParentOf", c.s)
		got, ok = impl.StarOf(c.s)
		checkText(t, got, ok, c.star, "StarOf", c.s)
	}
	for _, bad := range invalidNames {
		got, ok := impl.ParentOf(bad)
		checkText(t, got, ok, "", "ParentOf", bad)
		got, ok = impl.StarOf(bad)
		checkText(t, got, ok, "", "StarOf", bad)
	}
}

func TestCommonTop(t *testing.T) {
	for _, c := range []struct{ a, b, want string }{
		{"x.a.b.", "y.a.b.", "a.b."},
		{"x.a.b.", "a.b.", "a.b."},
		{"x.y.a.b.", "y.a.b.", "y.a.b."},
		{"a.b.", "a.b.", "a.b."},
		{"xa.b.", "a.b.", "b."},
		{"xa.b.", "ya.b.", "b."},
		{"xb.", "b.", "."},
		{"a.b.", "a.c.", "."},
		{"a.", "b.", "."},
		{"a.b.", "b.a.", "."},
		{"a.x.b.", "a.y.b.", "b."},
		{".", ".", "."},
		{".", "a.", "."},
		{"*.a.", "*.a.", "*.a."},
		{"*.a.", "x.a.", "a."},
		{"*.", "*.a.", "."},
		{name60, name60, name60},
		{name60, name60[11:], name60[11:]},
		{labels8, labels8All, "b.c.d.e.f.g.h."},
	} {
		got, ok := impl.CommonTop(c.a, c.b)
		checkText(t, got, ok, c.want, "CommonTop", c.a, c.b)
		got, ok = impl.CommonTop(c.b, c.a)
		checkText(t, got, ok, c.want, "CommonTop", c.b, c.a)
	}
	for _, bad := range invalidNames {
		for _, other := range []string{".", "a.b.", bad} {
			got, ok := impl.CommonTop(bad, other)
			checkText(t, got, ok, "", "CommonTop", bad, other)
			got, ok = impl.CommonTop(other, bad)
			checkText(t, got, ok, "", "CommonTop", other, bad)
		}
	}
}

func TestCommonTopIsTheLongest(t *testing.T) {
	names := someNames()
	for _, a := range names {
		for _, b := range names {
			want := a
			for want != "." && b != want && !strings.HasSuffix(b, "."+want) {
				_, behind, _ := strings.Cut(want, ".")
				want = behind
				if want == "" {
					want = "."
				}
			}
			if got, ok := impl.CommonTop(a, b); !ok || got != want {
				t.Fatalf("CommonTop(%.100q, %.100q) = %.100q, %v; want %.100q", a, b, got, ok, want)
			}
		}
	}
}
