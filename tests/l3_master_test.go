package tests

import (
	"math"
	"regexp"
	"slices"
	"strconv"
	"strings"
	"testing"

	"loop.example/zonefiles/impl"
)

// text55 makes a name of 60 bytes below a.b., and text56 is longer by one.
const (
	text55 = label10 + label10 + label10 + label10 + "abcdefghi.a"
	text56 = label10 + label10 + label10 + label10 + "abcdefghij.a"
)

// plainState is a state in which every record can be read.
var plainState = impl.MasterState{Origin: "a.b.", Ttl: 300, Owner: "o.a.b."}

// invalidStates are states behind which no line can be read.
func invalidStates() []impl.MasterState {
	list := []impl.MasterState{{}, {Ttl: -1}, {Ttl: 300, Owner: "a."}}
	for _, name := range invalidNames {
		list = append(list, impl.MasterState{Origin: name, Ttl: 300, Owner: "o.a.b."})
		if name != "" {
			list = append(list, impl.MasterState{Origin: "a.b.", Ttl: 300, Owner: name}, impl.MasterState{Origin: "a.b.", Ttl: -1, Owner: name})
		}
	}
	for _, ttl := range []int{-2, 100001, 4294967295, math.MinInt, math.MaxInt} {
		list = append(list, impl.MasterState{Origin: "a.b.", Ttl: ttl}, impl.MasterState{Origin: "a.b.", Ttl: ttl, Owner: "o.a.b."})
	}
	return list
}

// recordOf returns the record of a text that is known to have one.
func recordOf(t *testing.T, text string) impl.Record {
	t.Helper()
	r, ok := impl.ParseRecord(text)
	if !ok {
		t.Fatalf("ParseRecord(%q) finds no record", text)
	}
	return r
}

// recordsOf returns the records of texts.
func recordsOf(t *testing.T, texts ...string) []impl.Record {
	t.Helper()
	var list []impl.Record
	for _, text := range texts {
		list = append(list, recordOf(t, text))
	}
	return list
}

// sameRecords reports whether two lists have the same records in the same order.
func sameRecords(a []impl.Record, b []impl.Record) bool {
	return slices.EqualFunc(a, b, sameRecord)
}

// checkLine reports a line that is not read as wanted; as wanted, the empty text stands for no record.
func checkLine(t *testing.T, s impl.MasterState, line string, behind impl.MasterState, want string) {
	t.Helper()
	state, r, has, ok := impl.ReadLine(s, line)
	record := impl.Record{}
	if want != "" {
		record = recordOf(t, want)
	}
	if !ok || state != behind || has != (want != "") || !sameRecord(r, record) {
		t.Errorf("ReadLine(%v, %.200q) = %v, %v, %v, %v; want %v, %q", s, line, state, r, has, ok, behind, want)
	}
}

// checkNoLine reports a line that is read although it cannot be.
func checkNoLine(t *testing.T, s impl.MasterState, line string) {
	t.Helper()
	state, r, has, ok := impl.ReadLine(s, line)
	if ok || has || state != (impl.MasterState{}) || !sameRecord(r, impl.Record{}) {
		t.Errorf("ReadLine(%v, %.200q) = %v, %v, %v, %v", s, line, state, r, has, ok)
	}
}

// checkMaster reports a master file that has not these records.
func checkMaster(t *testing.T, text string, origin string, want ...string) {
	t.Helper()
	list, line, ok := impl.ReadMaster(text, origin)
	if !ok || line != 0 || !sameRecords(list, recordsOf(t, want...)) {
		t.Errorf("ReadMaster(%.300q, %q) = %v, %d, %v; want %q", text, origin, list, line, ok, want)
	}
}

// checkNoMaster reports a master file that can be read, or whose wrong line is another one.
func checkNoMaster(t *testing.T, text string, origin string, want int) {
	t.Helper()
	list, line, ok := impl.ReadMaster(text, origin)
	if ok || line != want || len(list) != 0 {
		t.Errorf("ReadMaster(%.300q, %.100q) = %v, %d, %v; want the line %d", text, origin, list, line, ok, want)
	}
}

func TestMasterLimits(t *testing.T) {
	if impl.MaxMaster != 4000 || impl.MaxRecords != 60 {
		t.Error("a limit of master files is not as the document says")
	}
}

func TestStripComment(t *testing.T) {
	for line, want := range map[string]string{
		"":                                 "",
		";":                                "",
		"; a":                              "",
		" ; a":                             " ",
		"a":                                "a",
		"a ":                               "a ",
		"a;b":                              "a",
		"a ; b ; c":                        "a ",
		"a \"x;\" b ; c ; d":               "a \"x;\" b ",
		"\";\"":                            "\";\"",
		"\";\";":                           "\";\"",
		"\";":                              "\";",
		"\";;;":                            "\";;;",
		"\"a\";\"b\"":                      "\"a\"",
		"\"a\"b\";\"c;":                    "\"a\"b\";\"c",
		"a\"b;c\"d;e":                      "a\"b;c\"d",
		"\"\";\"":                          "\"\"",
		"\"\"\";\"":                        "\"\"\";\"",
		"\\\";\\\";":                       "\\\";\\\"",
		"';'":                              "'",
		"a\n;b":                            "a\n",
		"\xff;":                            "\xff",
		"\xc3;\"":                          "\xc3",
		"\xc3\";\";":                       "\xc3\";\"",
		"\u037e a":                         "\u037e a",
		"é;é":                              "é",
		strings.Repeat(";", 100000):        "",
		strings.Repeat("\"", 100000) + ";": strings.Repeat("\"", 100000),
		strings.Repeat("\"", 99999) + ";":  strings.Repeat("\"", 99999) + ";",
	} {
		if got := impl.StripComment(line); got != want {
			t.Errorf("StripComment(%.100q) = %.100q; want %.100q", line, got, want)
		}
	}
}

func TestStripCommentAsDefined(t *testing.T) {
	for _, line := range textsOf("a;\" ", 7) {
		want := line
		for i := range len(line) {
			if line[i] == ';' && strings.Count(line[:i], "\"")%2 == 0 {
				want = line[:i]
				break
			}
		}
		if got := impl.StripComment(line); got != want {
			t.Fatalf("StripComment(%q) = %q; want %q", line, got, want)
		}
	}
}

func TestFieldsOf(t *testing.T) {
	for _, c := range []struct {
		line string
		want []string
	}{
		{"", nil},
		{" ", nil},
		{"     ", nil},
		{"a", []string{"a"}},
		{" a", []string{"a"}},
		{"a ", []string{"a"}},
		{"a b", []string{"a", "b"}},
		{"  a  \"x y\" b", []string{"a", "\"x y\"", "b"}},
		{"\"\"", []string{"\"\""}},
		{"\" \"", []string{"\" \""}},
		{" \"  \" ", []string{"\"  \""}},
		{"\"a\" \"b\"", []string{"\"a\"", "\"b\""}},
		{"\"a\"  b  \"\" ", []string{"\"a\"", "b", "\"\""}},
		{"a ; b", []string{"a", ";", "b"}},
		{"\";\" ;", []string{"\";\"", ";"}},
		{"a\tb", []string{"a\tb"}},
		{"a\nb c\r", []string{"a\nb", "c\r"}},
		{"\"a\nb\"", []string{"\"a\nb\""}},
		{"a\u00a0b\u2003c", []string{"a\u00a0b\u2003c"}},
		{"\xff \"\xfe \xfd\"", []string{"\xff", "\"\xfe \xfd\""}},
		{"\\ '", []string{"\\", "'"}},
		{"\"\\\" a", []string{"\"\\\"", "a"}},
	} {
		if got, ok := impl.FieldsOf(c.line); !ok || !slices.Equal(got, c.want) {
			t.Errorf("FieldsOf(%q) = %q, %v; want %q", c.line, got, ok, c.want)
		}
	}
	for _, line := range []string{
		"\"", " \"", "\" ", "a \"", "\"a", "\"a b", "a\"", "a\"b", "a\"b\"", "a\" b\"", "a\"\"", "\"a\"b", "\"a\"\"b\"", "\"\"\"", "\"\"\"\"", "\"a\";",
		"a b c\" d", "a b \"c", "\"a\" b\"", "\"a\"\t", "\"a\"\n", "\"\"a \"b\"", "\\\"", "\"a\\\"\"", "\xff\"",
		strings.Repeat("\"", 99999), strings.Repeat("a ", 100000) + "\"",
	} {
		if got, ok := impl.FieldsOf(line); ok || len(got) != 0 {
			t.Errorf("FieldsOf(%.100q) = %.100q, %v", line, got, ok)
		}
	}
	if got, ok := impl.FieldsOf(strings.Repeat(" \"a b\" c", 50000)); !ok || len(got) != 100000 {
		t.Errorf("FieldsOf a long line has %d fields, %v", len(got), ok)
	}
}

func TestFieldsOfAsDefined(t *testing.T) {
	field := regexp.MustCompile(`"[^"]*"|[^" ]+`)
	whole := regexp.MustCompile(`\A *((` + field.String() + `)( +|\z))*\z`)
	for _, line := range textsOf("a\" ;", 8) {
		var want []string
		fits := whole.MatchString(line)
		if fits {
			want = field.FindAllString(line, -1)
		}
		if got, ok := impl.FieldsOf(line); ok != fits || !slices.Equal(got, want) {
			t.Fatalf("FieldsOf(%q) = %q, %v; want %q, %v", line, got, ok, want, fits)
		}
	}
}

func TestFieldsOfAreNew(t *testing.T) {
	first, _ := impl.FieldsOf("a b \"c d\"")
	second, _ := impl.FieldsOf("a b \"c d\"")
	_ = append(first[:1], "x", "y", "z")
	if !slices.Equal(second, []string{"a", "b", "\"c d\""}) {
		t.Errorf("a result changed to %q", second)
	}
	if third, ok := impl.FieldsOf("a b \"c d\""); !ok || !slices.Equal(third, []string{"a", "b", "\"c d\""}) {
		t.Errorf("FieldsOf = %q after its result was written to", third)
	}
}

// dataCase is the text of a record of kind whose data are read from fields below a.b.
type dataCase struct {
	kind   int
	fields []string
	want   string
}

// dataCases returns data at the limits and the edges that chapters 2 and 3 name.
func dataCases() []dataCase {
	return []dataCase{
		{1, []string{"1.2.3.4"}, "o. 5 A 1.2.3.4"},
		{1, []string{"0.0.0.0"}, "o. 5 A 0.0.0.0"},
		{1, []string{"255.255.255.255"}, "o. 5 A 255.255.255.255"},
		{2, []string{"ns"}, "o. 5 NS ns.a.b."},
		{2, []string{"NS.X"}, "o. 5 NS ns.x.a.b."},
		{2, []string{"@"}, "o. 5 NS a.b."},
		{2, []string{"."}, "o. 5 NS ."},
		{2, []string{"C."}, "o. 5 NS c."},
		{2, []string{"7"}, "o. 5 NS 7.a.b."},
		{2, []string{"*"}, "o. 5 NS *.a.b."},
		{2, []string{name60}, "o. 5 NS " + name60},
		{2, []string{text55}, "o. 5 NS " + text55 + ".a.b."},
		{5, []string{"*.Y"}, "o. 5 CNAME *.y.a.b."},
		{5, []string{"@"}, "o. 5 CNAME a.b."},
		{6, []string{"ns.b.", "7", "10", "20", "30", "40"}, "o. 5 SOA ns.b. 7 10 20 30 40"},
		{6, []string{"@", "0", "0", "0", "0", "0"}, "o. 5 SOA a.b. 0 0 0 0 0"},
		{6, []string{"N", "4294967295", "100000", "100000", "100000", "100000"}, "o. 5 SOA n.a.b. 4294967295 100000 100000 100000 100000"},
		{12, []string{"p"}, "o. 5 PTR p.a.b."},
		{15, []string{"10", "mail"}, "o. 5 MX 10 mail.a.b."},
		{15, []string{"0", "@"}, "o. 5 MX 0 a.b."},
		{15, []string{"999", "M.c."}, "o. 5 MX 999 m.c."},
		{15, []string{"5", "6"}, "o. 5 MX 5 6.a.b."},
		{16, []string{"\"\""}, "o. 5 TXT \"\""},
		{16, []string{"\"Hello; X\""}, "o. 5 TXT \"Hello; X\""},
		{16, []string{"\"" + text20 + "\""}, "o. 5 TXT \"" + text20 + "\""},
		{16, []string{"\"@\""}, "o. 5 TXT \"@\""},
	}
}

func TestReadData(t *testing.T) {
	for _, c := range dataCases() {
		want := recordOf(t, c.want)
		for _, r := range []impl.Record{
			{Name: "o.", Ttl: 5, Kind: c.kind},
			{Name: "o.", Ttl: 5, Kind: c.kind, Nums: []int{9, 9, 9, 9, 9, 9}, Target: "x y", Text: "\"\n"},
			{Name: "o.", Ttl: 5, Kind: c.kind, Nums: []int{1}, Target: "z.", Text: "z"},
		} {
			fields := slices.Clone(c.fields)
			nums := slices.Clone(r.Nums)
			if got, ok := impl.ReadData(r, fields, "a.b."); !ok || !sameRecord(got, want) {
				t.Errorf("ReadData(%v, %q) = %v, %v; want %v", r, c.fields, got, ok, want)
			}
			if !slices.Equal(fields, c.fields) || !slices.Equal(nums, r.Nums) {
				t.Errorf("ReadData changed %q to %q, or %v to %v", c.fields, fields, nums, r.Nums)
			}
		}
	}
}

// checkNoData reports data that are read although they cannot be.
func checkNoData(t *testing.T, r impl.Record, fields []string, origin string) {
	t.Helper()
	if got, ok := impl.ReadData(r, fields, origin); ok || !sameRecord(got, impl.Record{}) {
		t.Errorf("ReadData(%v, %.200q, %.100q) = %v, %v", r, fields, origin, got, ok)
	}
}

func TestReadDataNeedsARecordAndAnOrigin(t *testing.T) {
	for _, c := range dataCases() {
		for _, name := range invalidNames {
			checkNoData(t, impl.Record{Name: name, Ttl: 5, Kind: c.kind}, c.fields, "a.b.")
			checkNoData(t, impl.Record{Name: "o.", Ttl: 5, Kind: c.kind}, c.fields, name)
		}
		for _, ttl := range []int{-1, 100001, math.MinInt, math.MaxInt} {
			checkNoData(t, impl.Record{Name: "o.", Ttl: ttl, Kind: c.kind}, c.fields, "a.b.")
		}
		for _, ttl := range []int{0, 100000} {
			if got, ok := impl.ReadData(impl.Record{Name: name60, Ttl: ttl, Kind: c.kind}, c.fields, "a.b."); !ok || got.Ttl != ttl || got.Name != name60 {
				t.Errorf("ReadData(%d, %q) = %v, %v", ttl, c.fields, got, ok)
			}
		}
		for _, kind := range []int{0, -1, 3, 4, 7, 11, 13, 14, 17, 257, math.MinInt, math.MaxInt} {
			checkNoData(t, impl.Record{Name: "o.", Ttl: 5, Kind: kind}, c.fields, "a.b.")
		}
	}
}

func TestReadDataOfOtherFields(t *testing.T) {
	for _, c := range dataCases() {
		r := impl.Record{Name: "o.", Ttl: 5, Kind: c.kind}
		checkNoData(t, r, nil, "a.b.")
		checkNoData(t, r, []string{}, "a.b.")
		for i := range c.fields {
			checkNoData(t, r, slices.Delete(slices.Clone(c.fields), i, i+1), "a.b.")
			checkNoData(t, r, slices.Concat(c.fields[:i], []string{""}, c.fields[i+1:]), "a.b.")
		}
		for i := range len(c.fields) + 1 {
			for _, more := range []string{"", "0", "1", "x", "@", "\"\"", ".", "IN", ";"} {
				checkNoData(t, r, slices.Insert(slices.Clone(c.fields), i, more), "a.b.")
			}
		}
		checkNoData(t, r, append(slices.Clone(c.fields), make([]string, 100000)...), "a.b.")
	}
	for kind, rows := range map[int][][]string{
		1: {{"1.2.3"}, {"1.2.3."}, {".1.2.3"}, {"1.2.3.4."}, {"1.2.3.4.5"}, {"1..3.4"}, {"256.2.3.4"}, {"1.2.3.256"}, {"1.2.3.04"}, {"01.2.3.4"}, {"+1.2.3.4"}, {"1.2.3.-4"},
			{"1.2.3.-0"}, {"1.2.3.0x4"}, {"1.2.3.x"}, {"1.2.3. 4"}, {"1.2.3.4 "}, {" 1.2.3.4"}, {"\"1.2.3.4\""}, {"@"}, {"x"}, {"1", "2", "3", "4"}, {"1.2.3.18446744073709551620"}, {"1.2.3.\u0664"}},
		2:  {{"x..y"}, {".x"}, {"x.*"}, {"**"}, {"@."}, {"\"x\""}, {"x y"}, {" x"}, {"é"}, {"\u212a"}, {"\xff"}, {label11}, {labels9}, {"a.b.c.d.e.f.g"}, {name61}, {text56}, {strings.Repeat("a", 100000)}},
		5:  {{"x;y"}, {"$"}, {"x", "y"}, {"1", "x"}},
		12: {{"x", "1"}, {"x", ""}, {"x/y"}},
		6: {{"x", "1", "2", "3", "4"}, {"x", "1", "2", "3", "4", "5", "6"}, {"1", "2", "3", "4", "5", "x"}, {"x", "4294967296", "2", "3", "4", "5"}, {"x", "-1", "2", "3", "4", "5"},
			{"x", "1", "100001", "3", "4", "5"}, {"x", "1", "2", "100001", "4", "5"}, {"x", "1", "2", "3", "100001", "5"}, {"x", "1", "2", "3", "4", "100001"},
			{"x", "01", "2", "3", "4", "5"}, {"x", "1", "2", "3", "4", "+5"}, {"x", "1", "2", "3", "4", "00"}, {"x", "1", "2", "3", "4", "5 "}, {"x", "18446744073709551617", "2", "3", "4", "5"},
			{"x", "1 2 3 4 5"}, {"x", "1.2.3.4.5"}, {"x..", "1", "2", "3", "4", "5"}},
		15: {{"1000", "x"}, {"-1", "x"}, {"+1", "x"}, {"010", "x"}, {"00", "x"}, {"1.0", "x"}, {"x", "10"}, {"10 x"}, {"10"}, {"x"}, {"10", "x..y"}, {"10", "\"x\""}, {"10", "20", "x"}, {"\"10\"", "x"}},
		16: {{"x"}, {"\""}, {"\"x"}, {"x\""}, {"\"\"\""}, {"\"a\"b\""}, {"\"a\\b\""}, {"\"a\nb\""}, {"\"é\""}, {"\"\x1f\""}, {"\"\x7f\""}, {"\"\xff\""}, {"\"a\" "}, {" \"a\""}, {"'a'"},
			{"\"" + text21 + "\""}, {"\"" + strings.Repeat("a", 100000) + "\""}, {"\"a\"", "\"b\""}, {"\"a", "b\""}},
	} {
		for _, fields := range rows {
			checkNoData(t, impl.Record{Name: "o.", Ttl: 5, Kind: kind}, fields, "a.b.")
		}
	}
}

func TestReadDataIsNew(t *testing.T) {
	for _, c := range dataCases() {
		given := impl.Record{Name: "o.", Ttl: 5, Kind: c.kind, Nums: []int{1, 2, 3, 4, 5, 6}[:4]}
		first, _ := impl.ReadData(given, c.fields, "a.b.")
		second, _ := impl.ReadData(given, c.fields, "a.b.")
		all := first.Nums[:cap(first.Nums)]
		for i := range all {
			all[i] = -7
		}
		if !sameRecord(second, recordOf(t, c.want)) || !slices.Equal(given.Nums[:6], []int{1, 2, 3, 4, 5, 6}) {
			t.Errorf("a result changed to %v, or the argument to %v", second, given)
		}
	}
}

func TestReadLineWithoutARecord(t *testing.T) {
	for _, s := range []impl.MasterState{
		plainState, {Origin: "."}, {Origin: ".", Ttl: -1}, {Origin: name60, Ttl: 100000, Owner: name60}, {Origin: "*.a.", Ttl: 1, Owner: "."}, {Origin: "a.", Owner: "*."},
	} {
		for _, line := range []string{"", " ", "      ", ";", "; a", "   ; $ORIGIN x", ";\"", ";\";\"", " ;\x00\xff", strings.Repeat(" ", 100000), strings.Repeat(";", 100000)} {
			checkLine(t, s, line, s, "")
		}
	}
}

func TestReadLineOfDirectives(t *testing.T) {
	for _, c := range []struct{ line, origin string }{
		{"$ORIGIN sub", "sub.a.b."},
		{"$ORIGIN x.y", "x.y.a.b."},
		{"$ORIGIN SUB", "sub.a.b."},
		{"$ORIGIN C.", "c."},
		{"$ORIGIN .", "."},
		{"$ORIGIN @", "a.b."},
		{"$ORIGIN *", "*.a.b."},
		{"$ORIGIN 5", "5.a.b."},
		{"$ORIGIN   sub  ", "sub.a.b."},
		{"$ORIGIN sub;", "sub.a.b."},
		{"$ORIGIN sub ; c d \"", "sub.a.b."},
		{"$ORIGIN " + name60, name60},
		{"$ORIGIN " + labels8All, labels8All},
		{"$ORIGIN a.b.c.d.e.f", "a.b.c.d.e.f.a.b."},
		{"$ORIGIN " + text55, text55 + ".a.b."},
	} {
		for _, owner := range []string{"", "o.a.b.", "."} {
			for _, ttl := range []int{-1, 0, 100000} {
				checkLine(t, impl.MasterState{Origin: "a.b.", Ttl: ttl, Owner: owner}, c.line, impl.MasterState{Origin: c.origin, Ttl: ttl, Owner: owner}, "")
			}
		}
	}
	for line, ttl := range map[string]int{
		"$TTL 0": 0, "$TTL 5": 5, "$TTL  99999 ": 99999, "$TTL 100000": 100000, "$TTL 7;8": 7, "$TTL 7 ; 8": 7,
	} {
		for _, s := range []impl.MasterState{plainState, {Origin: ".", Ttl: -1}, {Origin: "x.", Ttl: 100000, Owner: "y."}} {
			checkLine(t, s, line, impl.MasterState{Origin: s.Origin, Ttl: ttl, Owner: s.Owner}, "")
		}
	}
	for _, line := range []string{
		"$", "$ ", "$ORIGIN", "$ORIGIN ", "$ORIGIN ; x", "$ORIGIN x y", "$ORIGIN x 5", "$ORIGIN x IN", "$ORIGIN \"x\"", "$ORIGIN \"\"", "$ORIGIN x..y", "$ORIGIN x.*", "$ORIGIN @.",
		"$ORIGIN é", "$ORIGIN\tx", "$ORIGIN x\t", "$ORIGIN x\n", "$ORIGINx", "$ORIGI x", "$origin x", "$Origin x", "ORIGIN x", " $ORIGIN x", "\"$ORIGIN\" x", "$ ORIGIN x", "$ORIGIN$ x",
		"$ORIGIN " + name61, "$ORIGIN " + labels9, "$ORIGIN " + label11, "$ORIGIN a.b.c.d.e.f.g", "$ORIGIN " + text56, "$ORIGIN x\"", "$ORIGIN \"x",
		"$TTL", "$TTL ", "$TTL ;5", "$TTL 5 6", "$TTL 5 x", "$TTL 5 A 1.2.3.4", "$TTL x", "$TTL -1", "$TTL -0", "$TTL +5", "$TTL 05", "$TTL 00", "$TTL 100001", "$TTL 4294967296", "$TTL 5.0",
		"$TTL 18446744073709551616", "$TTL 18446744073709551621", "$TTL \"5\"", "$TTL 5s", "$TTL 0x5", "$TTL @", "$ttl 5", "$Ttl 5", "TTL 5", " $TTL 5", "$TTL5", "$TT 5", "$TTL\t5", "$TTL \u0665",
		"$INCLUDE x", "$x", "$x 5 A 1.2.3.4", "$ORIGIN 5 A 1.2.3.4", "$TTL " + strings.Repeat("1", 100000), "$ORIGIN" + strings.Repeat(" a", 100000),
	} {
		checkNoLine(t, plainState, line)
	}
}

func TestReadLineOfRecords(t *testing.T) {
	for _, c := range []struct{ line, owner, want string }{
		{"www A 1.2.3.4", "www.a.b.", "www.a.b. 300 A 1.2.3.4"},
		{"www 60 A 1.2.3.4 ; first", "www.a.b.", "www.a.b. 60 A 1.2.3.4"},
		{"www 60 IN A 1.2.3.4", "www.a.b.", "www.a.b. 60 A 1.2.3.4"},
		{"www IN A 1.2.3.4;", "www.a.b.", "www.a.b. 300 A 1.2.3.4"},
		{"  www   IN   A   1.2.3.4  "[2:], "www.a.b.", "www.a.b. 300 A 1.2.3.4"},
		{"WWW.x 0 NS NS", "www.x.a.b.", "www.x.a.b. 0 NS ns.a.b."},
		{"C. 100000 NS C.", "c.", "c. 100000 NS c."},
		{"@ MX 10 @", "a.b.", "a.b. 300 MX 10 a.b."},
		{". PTR .", ".", ". 300 PTR ."},
		{"* TXT \"a  ; \" ; b", "*.a.b.", "*.a.b. 300 TXT \"a  ; \""},
		{"@ 3600 IN SOA ns.b. 7 10 20 30 40", "a.b.", "a.b. 3600 SOA ns.b. 7 10 20 30 40"},
		{"@ SOA 1 2 3 4 5 6", "a.b.", "a.b. 300 SOA 1.a.b. 2 3 4 5 6"},
		{"5 6 A 1.2.3.4", "5.a.b.", "5.a.b. 6 A 1.2.3.4"},
		{"5 A 1.2.3.4", "5.a.b.", "5.a.b. 300 A 1.2.3.4"},
		{"IN IN NS IN", "in.a.b.", "in.a.b. 300 NS in.a.b."},
		{"IN A 1.2.3.4", "in.a.b.", "in.a.b. 300 A 1.2.3.4"},
		{"A A 1.2.3.4", "a.a.b.", "a.a.b. 300 A 1.2.3.4"},
		{"A 5 IN NS A", "a.a.b.", "a.a.b. 5 NS a.a.b."},
		{"al CNAME www", "al.a.b.", "al.a.b. 300 CNAME www.a.b."},
		{name60 + " 100000 MX 999 " + name60, name60, name60 + " 100000 MX 999 " + name60},
		{" A 1.2.3.4", "o.a.b.", "o.a.b. 300 A 1.2.3.4"},
		{"   7 IN NS @ ", "o.a.b.", "o.a.b. 7 NS a.b."},
		{" IN TXT \"\"", "o.a.b.", "o.a.b. 300 TXT \"\""},
		{" 0 TXT \"\";\"", "o.a.b.", "o.a.b. 0 TXT \"\""},
		{" 100000 MX 0 x;y", "o.a.b.", "o.a.b. 100000 MX 0 x.a.b."},
		{" NS A", "o.a.b.", "o.a.b. 300 NS a.a.b."},
	} {
		checkLine(t, plainState, c.line, impl.MasterState{Origin: "a.b.", Ttl: 300, Owner: c.owner}, c.want)
	}
	for _, line := range []string{
		"www", "www 60", "www 60 IN", "www IN", "www A", "www 60 A", "www IN A", "www A ; 1.2.3.4", "www A;1.2.3.4", "www 60 60 A 1.2.3.4", "www IN IN A 1.2.3.4", "www IN 60 A 1.2.3.4", "www 60 IN 60 A 1.2.3.4",
		"www A A 1.2.3.4", "www x A 1.2.3.4", "www in A 1.2.3.4", "www CH A 1.2.3.4", "www a 1.2.3.4", "www Ns x", "www X 1.2.3.4", "www 1 1.2.3.4", "www \"A\" 1.2.3.4", "www \"IN\" A 1.2.3.4", "www \"60\" A 1.2.3.4",
		"A 1.2.3.4", "60 IN NS", "\"www\" A 1.2.3.4", "\twww A 1.2.3.4", "www\tA 1.2.3.4", "\tA 1.2.3.4", "www A 1.2.3.4\n", "www A 1.2.3.4\r", "\nwww A 1.2.3.4",
		"www 100001 A 1.2.3.4", "www -1 A 1.2.3.4", "www +1 A 1.2.3.4", "www 01 A 1.2.3.4", "www 00 A 1.2.3.4", "www -0 A 1.2.3.4", "www 1s A 1.2.3.4", "www 18446744073709551617 A 1.2.3.4", " 100001 A 1.2.3.4",
		"www A 1.2.3", "www A 256.2.3.4", "www A 1.2.3.4 5", "www A 1.2.3.4 x", "www NS", "www NS x y", "www NS \"x\"", "www NS x..y", "www MX x", "www MX 10", "www MX 1000 x", "www SOA x 1 2 3 4", "www SOA x 4294967296 2 3 4 5",
		"www TXT", "www TXT x", "www TXT \"x", "www TXT x\"", "www TXT \"x\"y", "www TXT \"x\"\"y\"", "www TXT \"x;", "www TXT \"x;\"\"", "www TXT \"x\\\"\"", "www TXT \"" + text21 + "\"", "www TXT \"x\" \"y\"", "www TXT \"x\ny\"",
		"w..w A 1.2.3.4", "w.* A 1.2.3.4", "@. A 1.2.3.4", "w/w A 1.2.3.4", "é A 1.2.3.4", "\u212a A 1.2.3.4", "\xff A 1.2.3.4", "w\"w A 1.2.3.4", "#w A 1.2.3.4", "- - A 1.2.3.4", "\"",
		label11 + " A 1.2.3.4", labels9 + " A 1.2.3.4", name61 + " A 1.2.3.4", text56 + " A 1.2.3.4", "www NS " + text56,
		strings.Repeat("a", 100000), strings.Repeat("a ", 100000), " " + strings.Repeat("9", 100000) + " A 1.2.3.4", "www NS" + strings.Repeat(" x", 100000),
	} {
		checkNoLine(t, plainState, line)
	}
}

func TestReadLineOfEachKind(t *testing.T) {
	for _, c := range dataCases() {
		data := impl.KindName(c.kind) + " " + strings.Join(c.fields, " ")
		for _, line := range []string{"O. 5 " + data, "o. 5 IN " + data, " 5 " + data + " ; x", "  5  IN  " + data + ";", " IN " + data, " " + data} {
			s := impl.MasterState{Origin: "a.b.", Ttl: 5, Owner: "o."}
			checkLine(t, s, line, s, c.want)
		}
	}
}

func TestReadLineWithoutAnOwnerOrATtl(t *testing.T) {
	none := impl.MasterState{Origin: "b.", Ttl: -1}
	for _, line := range []string{" A 1.2.3.4", " 5 A 1.2.3.4", " 5 IN NS x", " IN NS x", "x A 1.2.3.4", "x IN TXT \"\"", " -1 A 1.2.3.4", "x -1 A 1.2.3.4"} {
		checkNoLine(t, none, line)
	}
	checkLine(t, none, "x 5 A 1.2.3.4", impl.MasterState{Origin: "b.", Ttl: -1, Owner: "x.b."}, "x.b. 5 A 1.2.3.4")
	checkLine(t, none, "@ 0 IN A 1.2.3.4", impl.MasterState{Origin: "b.", Ttl: -1, Owner: "b."}, "b. 0 A 1.2.3.4")

	owned := impl.MasterState{Origin: "b.", Ttl: -1, Owner: "x."}
	checkLine(t, owned, " 5 A 1.2.3.4", owned, "x. 5 A 1.2.3.4")
	checkLine(t, owned, " 5 NS @", owned, "x. 5 NS b.")
	checkNoLine(t, owned, " A 1.2.3.4")
	checkNoLine(t, owned, " IN A 1.2.3.4")

	timed := impl.MasterState{Origin: "b.", Ttl: 0}
	checkLine(t, timed, "x A 1.2.3.4", impl.MasterState{Origin: "b.", Ttl: 0, Owner: "x.b."}, "x.b. 0 A 1.2.3.4")
	checkLine(t, timed, "x 9 A 1.2.3.4", impl.MasterState{Origin: "b.", Ttl: 0, Owner: "x.b."}, "x.b. 9 A 1.2.3.4")
	checkNoLine(t, timed, " A 1.2.3.4")
	checkNoLine(t, timed, " 9 A 1.2.3.4")

	most := impl.MasterState{Origin: "b.", Ttl: 100000, Owner: "."}
	checkLine(t, most, " A 1.2.3.4", most, ". 100000 A 1.2.3.4")
}

func TestReadLineBelowTheRoot(t *testing.T) {
	root := impl.MasterState{Origin: ".", Ttl: 9}
	for line, name := range map[string]string{"x": "x.", "x.y": "x.y.", "@": ".", ".": ".", "*": "*.", "X.": "x."} {
		checkLine(t, root, line+" NS "+line, impl.MasterState{Origin: ".", Ttl: 9, Owner: name}, name+" 9 NS "+name)
		checkLine(t, root, "$ORIGIN "+line, impl.MasterState{Origin: name, Ttl: 9}, "")
	}
}

func TestReadLineNeedsAState(t *testing.T) {
	for _, s := range invalidStates() {
		for _, line := range []string{"", "; x", "www 5 A 1.2.3.4", " 5 A 1.2.3.4", "c. 5 NS d.", "$ORIGIN c.", "$TTL 5", "x"} {
			checkNoLine(t, s, line)
		}
	}
}

// part is a text in a line, and whether it can stand there.
type part struct {
	text string
	fits bool
}

func TestReadLineAsDefined(t *testing.T) {
	owners := []part{{"", true}, {"www", true}, {"@", true}, {"IN", true}, {"7", true}, {"c.", true}, {"A", true}, {"x..y", false}, {"$x", false}, {"\"x\"", false}}
	ttls := []part{{"", true}, {"0", true}, {"8", true}, {"100000", true}, {"100001", false}, {"08", false}, {"-1", false}, {"8 8", false}}
	classes := []part{{"", true}, {"IN", true}, {"in", false}, {"IN IN", false}, {"IN 8", false}}
	data := []part{{"A 1.2.3.4", true}, {"NS x", true}, {"TXT \"; a\"", true}, {"MX 5 @", true}, {"A", false}, {"", false}, {"NS x y", false}, {"1.2.3.4", false}}
	ends := []part{{"", true}, {" ", true}, {" ; x \"", true}, {" \"", false}}
	names := map[string]string{"": "o.a.b.", "www": "www.a.b.", "@": "a.b.", "IN": "in.a.b.", "7": "7.a.b.", "c.": "c.", "A": "a.a.b."}
	texts := map[string]string{"A 1.2.3.4": "A 1.2.3.4", "NS x": "NS x.a.b.", "TXT \"; a\"": "TXT \"; a\"", "MX 5 @": "MX 5 a.b."}
	for _, owner := range owners {
		for _, ttl := range ttls {
			for _, class := range classes {
				for _, d := range data {
					for _, end := range ends {
						line := strings.Join([]string{owner.text, ttl.text, class.text, d.text}, " ") + end.text
						if strings.Trim(line, " ") == strings.Trim(end.text, " ") && end.fits {
							checkLine(t, plainState, line, plainState, "")
							continue
						}
						if !owner.fits || !ttl.fits || !class.fits || !d.fits || !end.fits {
							checkNoLine(t, plainState, line)
							continue
						}
						name := names[owner.text]
						seconds := ttl.text
						if seconds == "" {
							seconds = "300"
						}
						behind := impl.MasterState{Origin: "a.b.", Ttl: 300, Owner: name}
						checkLine(t, plainState, line, behind, name+" "+seconds+" "+texts[d.text])
					}
				}
			}
		}
	}
}

func TestReadLineIsNew(t *testing.T) {
	_, first, _, _ := impl.ReadLine(plainState, "www A 1.2.3.4")
	_, second, _, _ := impl.ReadLine(plainState, "www A 1.2.3.4")
	all := first.Nums[:cap(first.Nums)]
	for i := range all {
		all[i] = -7
	}
	if impl.FormatRecord(second) != "www.a.b. 300 A 1.2.3.4" {
		t.Errorf("a result changed to %v", second)
	}
	checkLine(t, plainState, "www A 1.2.3.4", impl.MasterState{Origin: "a.b.", Ttl: 300, Owner: "www.a.b."}, "www.a.b. 300 A 1.2.3.4")
}

func TestReadMaster(t *testing.T) {
	checkMaster(t, "", "a.b.")
	checkMaster(t, "", ".")
	checkMaster(t, "\n", "a.b.")
	checkMaster(t, "\n\n \n; x\n", "a.b.")
	checkMaster(t, "$TTL 5", "a.b.")
	checkMaster(t, "www 60 A 1.2.3.4 ; first", "a.b.", "www.a.b. 60 A 1.2.3.4")
	checkMaster(t, "www 60 A 1.2.3.4\n", "a.b.", "www.a.b. 60 A 1.2.3.4")
	checkMaster(t, "www 60 A 1.2.3.4", ".", "www. 60 A 1.2.3.4")
	checkMaster(t, "@ 60 A 1.2.3.4", name60, name60+" 60 A 1.2.3.4")
	checkMaster(t, "b 5 A 1.1.1.1\na 5 A 1.1.1.1\nb 5 A 1.1.1.1\n 6 A 1.1.1.1", "c.", "b.c. 5 A 1.1.1.1", "a.c. 5 A 1.1.1.1", "b.c. 5 A 1.1.1.1", "b.c. 6 A 1.1.1.1")
	checkMaster(t, "x 1 TXT \";\"\n 2 TXT \" ;\" ; \"\n;\"\n 3 TXT \"\";\"", "c.", "x.c. 1 TXT \";\"", "x.c. 2 TXT \" ;\"", "x.c. 3 TXT \"\"")
}

func TestReadMasterKeepsAState(t *testing.T) {
	checkMaster(t, "$TTL 7\nx NS @\n 8 NS @\n NS y\n$TTL 0\n\n; c\n A 1.2.3.4\n$TTL 100000\ny A 1.2.3.4", "b.",
		"x.b. 7 NS b.", "x.b. 8 NS b.", "x.b. 7 NS y.b.", "x.b. 0 A 1.2.3.4", "y.b. 100000 A 1.2.3.4")
	checkMaster(t, "x 8 NS @\n$ORIGIN c\n 9 NS @\n@ 9 NS x\n$ORIGIN d\n 9 NS @\nx 9 NS E.\n$ORIGIN @\nx 9 NS x\n$ORIGIN z.\nx 9 NS @\n$ORIGIN .\nx 9 NS @\n$ORIGIN q\nx 9 NS @", "b.",
		"x.b. 8 NS b.", "x.b. 9 NS c.b.", "c.b. 9 NS x.c.b.", "c.b. 9 NS d.c.b.", "x.d.c.b. 9 NS e.", "x.d.c.b. 9 NS x.d.c.b.", "x.z. 9 NS z.", "x. 9 NS .", "x.q. 9 NS q.")
	checkNoMaster(t, "$ORIGIN a.b.c.d.e.f.g\n$ORIGIN x", "h.", 2)
	checkNoMaster(t, "x 8 NS @\n NS @", "b.", 2)
	checkNoMaster(t, "$TTL 8\n NS @", "b.", 2)
	checkNoMaster(t, "$TTL 8\n$ORIGIN c\n NS @", "b.", 3)
}

func TestReadMasterTellsTheFirstWrongLine(t *testing.T) {
	for _, wrong := range []string{
		"www", "www A 1.2.3.4", " 5 A 1.2.3.4", "www 5 A 1.2.3", "www 5 A 1.2.3.4 x", "$ORIGIN", "$TTL x", "$X y", "\"", "www 5 TXT \"x", "www 5 TXT x;\"", "x..y 5 A 1.2.3.4", "\t", "\r", "\x00", "\xff",
		"www 100001 A 1.2.3.4", "$TTL 100001", "www 5 IN", "www\r", "www 5 A 1.2.3.4\r",
	} {
		checkNoMaster(t, wrong, "b.", 1)
		checkNoMaster(t, wrong+"\n", "b.", 1)
		checkNoMaster(t, "\n"+wrong, "b.", 2)
		checkNoMaster(t, "; x\n\n"+wrong+"\n\n", "b.", 3)
		checkNoMaster(t, "$ORIGIN c.\n"+wrong+"\nwww", "b.", 2)
		checkNoMaster(t, wrong+"\n"+wrong+"\n"+wrong, "b.", 1)
		checkNoMaster(t, strings.Repeat("\n", 3000)+wrong, "b.", 3001)
	}
	for n := range 40 {
		checkNoMaster(t, strings.Repeat("x 5 A 1.2.3.4\n", n)+"x\nx 5 A 1.2.3.4", "b.", n+1)
	}
}

func TestReadMasterOfManyRecords(t *testing.T) {
	line := "x 5 A 1.2.3.4\n"
	for _, n := range []int{1, 59, 60} {
		list, wrong, ok := impl.ReadMaster(strings.Repeat(line, n), "b.")
		if !ok || wrong != 0 || len(list) != n {
			t.Errorf("ReadMaster of %d records has %d, %d, %v", n, len(list), wrong, ok)
		}
	}
	checkNoMaster(t, strings.Repeat(line, 61), "b.", 61)
	checkNoMaster(t, strings.Repeat(line, 100), "b.", 61)
	checkNoMaster(t, strings.Repeat("\n"+line, 61), "b.", 122)
	checkNoMaster(t, "$TTL 5\n"+strings.Repeat(line, 60)+"; x\n\n$TTL 6\n A 1.2.3.4\nwrong", "b.", 65)
	checkNoMaster(t, strings.Repeat(line, 60)+"wrong\n"+line, "b.", 61)
	list, wrong, ok := impl.ReadMaster(strings.Repeat(line, 60)+"; x\n\n$TTL 6\n$ORIGIN c\n", "b.")
	if !ok || wrong != 0 || len(list) != 60 {
		t.Errorf("ReadMaster of 60 records and other lines has %d, %d, %v", len(list), wrong, ok)
	}
}

func TestReadMasterOfLongTexts(t *testing.T) {
	line := "www 5 A 1.2.3.4 ;"
	checkMaster(t, line+strings.Repeat("x", 4000-len(line)), "b.", "www.b. 5 A 1.2.3.4")
	checkMaster(t, strings.Repeat("\n", 4000), "b.")
	checkNoMaster(t, line+strings.Repeat("x", 4001-len(line)), "b.", 0)
	checkNoMaster(t, strings.Repeat("\n", 4001), "b.", 0)
	checkNoMaster(t, strings.Repeat("x", 4000), "b.", 1)
	checkNoMaster(t, strings.Repeat("x", 4001), "b.", 0)
	checkNoMaster(t, "wrong\n"+strings.Repeat("x 5 A 1.2.3.4\n", 100000), "b.", 0)
	for _, origin := range invalidNames {
		for _, text := range []string{"", "\n", "c. 5 A 1.2.3.4", "$ORIGIN c.\nx 5 A 1.2.3.4", "wrong", strings.Repeat("\n", 4001)} {
			checkNoMaster(t, text, origin, 0)
		}
	}
}

func TestReadMasterIsNew(t *testing.T) {
	text := "x 5 A 1.2.3.4\n 5 A 1.2.3.5\n 5 MX 10 y\n 5 SOA y 1 2 3 4 5"
	want := []string{"x.b. 5 A 1.2.3.4", "x.b. 5 A 1.2.3.5", "x.b. 5 MX 10 y.b.", "x.b. 5 SOA y.b. 1 2 3 4 5"}
	first, _, _ := impl.ReadMaster(text, "b.")
	second, _, _ := impl.ReadMaster(text, "b.")
	for i := range first {
		all := first[i].Nums[:cap(first[i].Nums)]
		for j := range all {
			all[j] = -7
		}
		for j, r := range first[i+1:] {
			if impl.FormatRecord(r) != want[i+1+j] {
				t.Errorf("the record %d changed to %v", i+1+j, r)
			}
		}
	}
	if !sameRecords(second, recordsOf(t, want...)) {
		t.Errorf("a result changed to %v", second)
	}
	checkMaster(t, text, "b.", want...)
}

func TestWriteLine(t *testing.T) {
	for _, c := range []struct{ record, origin, owner, want string }{
		{"www.a.b. 300 A 1.2.3.4", "a.b.", "", "www 300 A 1.2.3.4"},
		{"www.a.b. 300 A 1.2.3.4", "a.b.", "a.b.", "www 300 A 1.2.3.4"},
		{"www.a.b. 300 A 1.2.3.4", "a.b.", "www.", "www 300 A 1.2.3.4"},
		{"www.a.b. 300 A 1.2.3.4", "a.b.", "www.a.b.", " 300 A 1.2.3.4"},
		{"www.a.b. 300 A 1.2.3.4", ".", "www.a.b.", " 300 A 1.2.3.4"},
		{"www.a.b. 300 A 1.2.3.4", ".", ".", "www.a.b. 300 A 1.2.3.4"},
		{"www.a.b. 300 A 1.2.3.4", "c.", name60, "www.a.b. 300 A 1.2.3.4"},
		{"www.a.b. 300 A 1.2.3.4", "www.a.b.", "", "@ 300 A 1.2.3.4"},
		{"a.b. 0 NS a.b.", "a.b.", "", "@ 0 NS @"},
		{"a.b. 0 NS a.b.", "a.b.", "a.b.", " 0 NS @"},
		{". 0 NS .", ".", "", "@ 0 NS @"},
		{". 0 NS .", ".", ".", " 0 NS @"},
		{". 0 NS .", "a.", "", ". 0 NS ."},
		{"*.a.b. 1 CNAME x.y.a.b.", "a.b.", "a.b.", "* 1 CNAME x.y"},
		{"xa.b. 1 CNAME xa.b.", "a.b.", "", "xa.b. 1 CNAME xa.b."},
		{"a.b. 3600 SOA ns.b. 7 10 20 30 40", "b.", "", "a 3600 SOA ns 7 10 20 30 40"},
		{"a.b. 3600 SOA a.b. 4294967295 0 0 0 100000", "a.b.", "b.", "@ 3600 SOA @ 4294967295 0 0 0 100000"},
		{"c.b. 5 PTR c.b.", "a.b.", "c.b.", " 5 PTR c.b."},
		{"a.b. 300 MX 10 mail.a.b.", "a.b.", "", "@ 300 MX 10 mail"},
		{"a.b. 300 MX 999 c.", "a.b.", "a.b.", " 300 MX 999 c."},
		{"x.a.b. 100000 TXT \"a.b.\"", "a.b.", "", "x 100000 TXT \"a.b.\""},
		{"x.a.b. 100000 TXT \"\"", "a.b.", "x.a.b.", " 100000 TXT \"\""},
		{"x.a.b. 5 TXT \" ; @ \"", "a.b.", "*.", "x 5 TXT \" ; @ \""},
		{name60 + " 100000 MX 999 " + name60, ".", "", name60 + " 100000 MX 999 " + name60},
		{name60 + " 100000 MX 999 " + name60, "abcd.", "abcd.", name60[:54] + " 100000 MX 999 " + name60[:54]},
	} {
		got, ok := impl.WriteLine(recordOf(t, c.record), c.origin, c.owner)
		checkText(t, got, ok, c.want, "WriteLine", c.record, c.origin, c.owner)
	}
}

func TestWriteLineNeedsValidArguments(t *testing.T) {
	for _, r := range invalidRecords() {
		for _, owner := range []string{"", ".", "a.b."} {
			got, ok := impl.WriteLine(r, "b.", owner)
			checkText(t, got, ok, "", "WriteLine")
		}
		if _, ok := impl.WriteLine(r, ".", r.Name); ok {
			t.Errorf("WriteLine accepts %v", r)
		}
	}
	for _, c := range recordCases() {
		for _, name := range invalidNames {
			got, ok := impl.WriteLine(c.record, name, "")
			checkText(t, got, ok, "", "WriteLine", c.text, name, "")
			got, ok = impl.WriteLine(c.record, name, c.record.Name)
			checkText(t, got, ok, "", "WriteLine", c.text, name, c.record.Name)
			if name != "" {
				got, ok = impl.WriteLine(c.record, "b.", name)
				checkText(t, got, ok, "", "WriteLine", c.text, "b.", name)
			}
		}
	}
}

func TestLinesAreReadBack(t *testing.T) {
	for _, c := range recordCases() {
		for _, origin := range validNames {
			for _, owner := range append([]string{""}, validNames...) {
				line, ok := impl.WriteLine(c.record, origin, owner)
				if !ok || strings.HasPrefix(line, " ") != (owner == c.record.Name) {
					t.Fatalf("WriteLine(%q, %q, %q) = %q, %v", c.text, origin, owner, line, ok)
				}
				checkLine(t, impl.MasterState{Origin: origin, Ttl: -1, Owner: owner}, line, impl.MasterState{Origin: origin, Ttl: -1, Owner: c.record.Name}, c.text)
			}
		}
	}
}

func TestWriteMaster(t *testing.T) {
	for _, c := range []struct {
		records []string
		origin  string
		want    string
	}{
		{nil, "a.b.", "$ORIGIN a.b.\n"},
		{nil, ".", "$ORIGIN .\n"},
		{[]string{"a.b. 5 NS a.b."}, "a.b.", "$ORIGIN a.b.\n@ 5 NS @\n"},
		{[]string{"a.b. 5 NS a.b."}, ".", "$ORIGIN .\na.b. 5 NS a.b.\n"},
		{[]string{"x. 5 A 1.2.3.4", "x. 5 A 1.2.3.4", "y. 5 A 1.2.3.4", "x. 5 A 1.2.3.4", "x. 6 TXT \";\""}, "c.",
			"$ORIGIN c.\nx. 5 A 1.2.3.4\n 5 A 1.2.3.4\ny. 5 A 1.2.3.4\nx. 5 A 1.2.3.4\n 6 TXT \";\"\n"},
		{[]string{"a.b. 3600 SOA ns.b. 7 10 20 30 40", "www.a.b. 300 A 1.2.3.4", "www.a.b. 60 TXT \"x; y\"", "ns.sub.a.b. 300 A 5.6.7.8", "sub.a.b. 300 MX 10 ns.sub.a.b."}, "a.b.",
			"$ORIGIN a.b.\n@ 3600 SOA ns.b. 7 10 20 30 40\nwww 300 A 1.2.3.4\n 60 TXT \"x; y\"\nns.sub 300 A 5.6.7.8\nsub 300 MX 10 ns.sub\n"},
	} {
		got, ok := impl.WriteMaster(recordsOf(t, c.records...), c.origin)
		checkText(t, got, ok, c.want, "WriteMaster", c.records...)
	}
}

func TestWriteMasterNeedsValidArguments(t *testing.T) {
	good := recordsOf(t, "a.b. 5 NS a.b.", "x.a.b. 5 A 1.2.3.4")
	for _, origin := range invalidNames {
		for _, list := range [][]impl.Record{nil, good} {
			got, ok := impl.WriteMaster(list, origin)
			checkText(t, got, ok, "", "WriteMaster", origin)
		}
	}
	for _, r := range invalidRecords() {
		for i := range len(good) + 1 {
			got, ok := impl.WriteMaster(slices.Insert(slices.Clone(good), i, r), "a.b.")
			checkText(t, got, ok, "", "WriteMaster", strconv.Itoa(i))
		}
	}
}

func TestWriteMasterAtLimits(t *testing.T) {
	r := recordOf(t, "x.b. 5 A 1.2.3.4")
	for n, fits := range map[int]bool{59: true, 60: true, 61: false, 100000: false} {
		want := ""
		if fits {
			want = "$ORIGIN b.\nx 5 A 1.2.3.4\n" + strings.Repeat(" 5 A 1.2.3.4\n", n-1)
		}
		got, ok := impl.WriteMaster(slices.Repeat([]impl.Record{r}, n), "b.")
		checkText(t, got, ok, want, "WriteMaster", strconv.Itoa(n))
	}
	for length := 3990; length <= 4010; length++ {
		list, text := masterOfLength(t, length)
		if length > 4000 {
			text = ""
		}
		got, ok := impl.WriteMaster(list, "b.")
		checkText(t, got, ok, text, "WriteMaster", strconv.Itoa(length))
	}
	long := slices.Repeat(recordsOf(t, name60+" 100000 MX 999 "+name60, "a. 0 NS ."), 30)
	got, ok := impl.WriteMaster(long, ".")
	checkText(t, got, ok, "", "WriteMaster", "of long records")
}

// masterOfLength returns records below b., and their master file, which has this length.
func masterOfLength(t *testing.T, length int) ([]impl.Record, string) {
	t.Helper()
	list := slices.Repeat(recordsOf(t, "b. 100000 MX 999 "+name60), 50)
	text := "$ORIGIN b.\n@" + strings.Repeat(" 100000 MX 999 "+name60+"\n", 50)
	for i := range 9 {
		content := strings.Repeat("z", min(length-len(text)-10*(9-i), 20))
		list = append(list, recordOf(t, "b. 5 TXT \""+content+"\""))
		text += " 5 TXT \"" + content + "\"\n"
	}
	if len(text) != length {
		t.Fatalf("the text of the test has %d bytes, not %d", len(text), length)
	}
	return list, text
}

func TestMasterFilesAreReadBack(t *testing.T) {
	cases := recordCases()
	for _, origin := range append(slices.Clone(validNames), "a.b.", "b.") {
		for start := range cases {
			var list []impl.Record
			for _, c := range cases[start:min(start+9, len(cases))] {
				list = append(list, c.record)
			}
			text, ok := impl.WriteMaster(list, origin)
			if !ok {
				t.Fatalf("WriteMaster(%v, %q) returns false", list, origin)
			}
			for _, other := range []string{".", "z.", origin, name60} {
				got, line, ok := impl.ReadMaster(text, other)
				if !ok || line != 0 || !sameRecords(got, list) {
					t.Fatalf("ReadMaster(%q, %q) = %v, %d, %v; want %v", text, other, got, line, ok, list)
				}
			}
		}
	}
}

func TestMasterRecordsAreNotChanged(t *testing.T) {
	for _, c := range recordCases() {
		nums := append(slices.Clone(c.record.Nums), 11, 12, 13, 14, 15, 16)
		given := slices.Clone(nums)
		r := c.record
		r.Nums = nums[:len(c.record.Nums)]
		all := []impl.Record{r, {Name: "behind"}}
		impl.ReadData(r, []string{"1.2.3.4"}, "b.")
		impl.WriteLine(r, "b.", "")
		impl.WriteMaster(all[:1], "b.")
		if !slices.Equal(nums, given) || !sameRecords(all, []impl.Record{r, {Name: "behind"}}) {
			t.Errorf("the numbers of %q changed to %v, or the records to %v", c.text, nums, all)
		}
	}
}
